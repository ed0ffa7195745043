import Derived.Test.YtifohbapfciniabRows
import Derived.WalkKit
import Derived.WalkSpells
import Derived.WalkLawsBesides
import Derived.StillTactics
import Derived.Deep.RegionHeld3
import Derived.Lib.QuietBelow
import Derived.BigQuiet
import Derived.RowKit3
import Derived.Deep.DeepCutAuto
import Derived.Deep.DrawnRows
import Derived.Lib.Bytealg
import Derived.Maps.AppendAt
import Derived.Deep.AppendLies
import Derived.Deep.OwnRows
set_option linter.unusedSimpArgs false
set_option linter.unusedVariables false
namespace Go.Proofs.Ytifohbapfciniab
open Go.RowKit Go.Sort

/-- A value of the program: its kind, its number, its text. -/
structure Val where
  k : Int
  n : Int
  s : ByteArray

def Val.v (x : Val) : Value := .agg #[.int .i64 x.k, .int .i64 x.n, .string x.s]
theorem Val.open_ (x : Val) : x.v = .agg #[.int .i64 x.k, .int .i64 x.n, .string x.s] := rfl
def Val.null : Val := ⟨0, 0, ⟨#[]⟩⟩
def Val.num (n : Int) : Val := ⟨1, n, ⟨#[]⟩⟩
def Val.str (s : ByteArray) : Val := ⟨2, 0, s⟩
def trueB (x : Val) : Bool := x.k == 1 && x.n != 0
def cleanV (x : Val) : Val := if x.k == 1 then .num x.n else if x.k == 2 then .str x.s else .null
def kindB (k : Int) : Bool := k == 1 || k == 2
def largeB (s : ByteArray) : Bool := decide ((1000 : Int) < (s.size : Int))

theorem hide {p : Prop} (h : p) : Hid p := h
theorem unhide {p : Prop} (h : Hid p) : p := h
theorem below_step {W0 w' w1 : World} (h : Below W0.heap.size W0 w') (h1 : Below w'.heap.size w' w1) : Below W0.heap.size W0 w1 := h.trans (h1.mono h.size)
theorem below_alloc {W0 w' : World} (h : Below W0.heap.size W0 w') (o : Obj) : Below W0.heap.size W0 (w'.alloc o) := h.alloc h.size o
theorem bcell {W w1 : World} (hb : Below W.heap.size W w1) : (∀ b o, b < W.heap.size → w1.cell? ⟨b, o, none⟩ = W.cell? ⟨b, o, none⟩) ∧ (∀ b o, b < W.heap.size → w1.frozen? ⟨b, o, none⟩ = W.frozen? ⟨b, o, none⟩) :=
  ⟨fun b o h => hb.cell (p := ⟨b, o, none⟩) h, fun b o h => hb.frozen (p := ⟨b, o, none⟩) h⟩

theorem number_any (n : Int) (w : World) :
    Calls Try.prog 41 #[.int .i64 n] w fun e w' => e = .returned (Val.num n).v ∧ Below w.heap.size w w' := by
  unfold Val.v Val.num
  go_enter Try.func41, Try.ntmps41
  go_wp2
  exact bodyPost_ret (v := .agg #[.int .i64 1, .int .i64 n, .string ⟨#[]⟩]) (by simp [results, Try.results41, go_sem]) rfl ⟨rfl, (Below.refl _ _).alloc (Nat.le_refl _) _⟩

theorem true_any (x : Val) (w : World) :
    Calls Try.prog 39 #[x.v] w fun e w' => e = .returned (.bool (trueB x)) ∧ Below w.heap.size w w' := by
  rw [x.open_]
  unfold trueB
  by_cases hk : (x.k == 1) = true
  · go_enter Try.func39, Try.ntmps39
    go_wp2
    go_ret
    exact ⟨by simp [hk], (Below.refl _ _).alloc (Nat.le_refl _) _⟩
  · have hk' : (x.k == 1) = false := by simpa using hk
    clear hk
    go_enter Try.func39, Try.ntmps39
    go_wp2
    go_ret
    exact ⟨by simp [hk'], (Below.refl _ _).alloc (Nat.le_refl _) _⟩

theorem text_any (s : ByteArray) (w : World) :
    Calls Try.prog 42 #[.string s] w fun e w' => e = .returned (Val.str s).v ∧ Below w.heap.size w w' := by
  unfold Val.v Val.str
  go_enter Try.func42, Try.ntmps42
  go_wp2
  exact bodyPost_ret (v := .agg #[.int .i64 2, .int .i64 0, .string s]) (by simp [results, Try.results42, go_sem]) rfl ⟨rfl, (Below.refl _ _).alloc (Nat.le_refl _) _⟩
theorem rnum_any (n : Int) (w : World) :
    Calls Try.prog 33 #[.int .i64 n] w fun e w' => e = .returned (Val.num n).v ∧ Below w.heap.size w w' := by
  unfold Val.v Val.num
  go_enter Try.func33, Try.ntmps33
  go_wp2
  exact bodyPost_ret (v := .agg #[.int .i64 1, .int .i64 n, .string ⟨#[]⟩]) (by simp [results, Try.results33, go_sem]) rfl ⟨rfl, (Below.refl _ _).alloc (Nat.le_refl _) _⟩
theorem rstr_any (s : ByteArray) (w : World) :
    Calls Try.prog 34 #[.string s] w fun e w' => e = .returned (Val.str s).v ∧ Below w.heap.size w w' := by
  unfold Val.v Val.str
  go_enter Try.func34, Try.ntmps34
  go_wp2
  exact bodyPost_ret (v := .agg #[.int .i64 2, .int .i64 0, .string s]) (by simp [results, Try.results34, go_sem]) rfl ⟨rfl, (Below.refl _ _).alloc (Nat.le_refl _) _⟩
theorem none_any (w : World) :
    Calls Try.prog 12 #[] w fun e w' => e = .returned Val.null.v ∧ Below w.heap.size w w' := by
  unfold Val.v Val.null
  go_enter Try.func12, Try.ntmps12
  go_wp2
  exact bodyPost_ret (v := .agg #[.int .i64 0, .int .i64 0, .string ⟨#[]⟩]) (by simp [results, Try.results12, go_sem]) rfl ⟨rfl, (Below.refl _ _).alloc (Nat.le_refl _) _⟩

set_option maxHeartbeats 1000000 in
theorem clean_any (x : Val) (w : World) :
    Calls Try.prog 29 #[x.v] w fun e w' => e = .returned (cleanV x).v ∧ Below w.heap.size w w' := by
  rw [x.open_]
  rcases Bool.eq_false_or_eq_true (x.k == 1) with k1 | k1
  · have hv : cleanV x = .num x.n := by simp [cleanV, k1]
    rw [hv]
    clear hv
    go_enter Try.func29, Try.ntmps29
    go_wp2_with (go_at_call 41; refine (number_any _ _).mono ?_; rintro e w1 ⟨rfl, hb1⟩; obtain ⟨hc1, hf1⟩ := bcell hb1; rw [Val.open_])
    refine bodyPost_ret (v := (Val.num x.n).v) (by simp [results, Try.results29, go_sem, Val.v, Val.num, hc1, hf1]) rfl ⟨rfl, ?_⟩
    (repeat (first | exact Below.refl _ _ | refine Below.alloc ?_ (by simp <;> omega) _ | refine Below.setCell ?_ (by simp <;> omega) _ | refine Below.trans ?_ (Below.mono (by assumption) (by first | omega | (simp; omega)))))
  · rcases Bool.eq_false_or_eq_true (x.k == 2) with k2 | k2
    · have hv : cleanV x = .str x.s := by simp [cleanV, k1, k2]
      rw [hv]
      clear hv
      go_enter Try.func29, Try.ntmps29
      go_wp2_with (go_at_call 42; refine (text_any _ _).mono ?_; rintro e w1 ⟨rfl, hb1⟩; obtain ⟨hc1, hf1⟩ := bcell hb1; rw [Val.open_])
      refine bodyPost_ret (v := (Val.str x.s).v) (by simp [results, Try.results29, go_sem, Val.v, Val.str, hc1, hf1]) rfl ⟨rfl, ?_⟩
      (repeat (first | exact Below.refl _ _ | refine Below.alloc ?_ (by simp <;> omega) _ | refine Below.setCell ?_ (by simp <;> omega) _ | refine Below.trans ?_ (Below.mono (by assumption) (by first | omega | (simp; omega)))))
    · have hv : cleanV x = .null := by simp [cleanV, k1, k2]
      rw [hv]
      clear hv
      go_enter Try.func29, Try.ntmps29
      go_wp2
      refine bodyPost_ret (v := Val.null.v) (by simp [results, Try.results29, go_sem, Val.v, Val.null]) rfl ⟨rfl, ?_⟩
      (repeat (first | exact Below.refl _ _ | refine Below.alloc ?_ (by simp <;> omega) _ | refine Below.setCell ?_ (by simp <;> omega) _))

set_option maxHeartbeats 1000000 in
theorem rclean_any (x : Val) (w : World) :
    Calls Try.prog 32 #[x.v] w fun e w' => e = .returned (cleanV x).v ∧ Below w.heap.size w w' := by
  rw [x.open_]
  rcases Bool.eq_false_or_eq_true (x.k == 1) with k1 | k1
  · have hv : cleanV x = .num x.n := by simp [cleanV, k1]
    rw [hv]
    clear hv
    go_enter Try.func32, Try.ntmps32
    go_wp2_with (go_at_call 33; refine (rnum_any _ _).mono ?_; rintro e w1 ⟨rfl, hb1⟩; obtain ⟨hc1, hf1⟩ := bcell hb1; rw [Val.open_])
    refine bodyPost_ret (v := (Val.num x.n).v) (by simp [results, Try.results32, go_sem, Val.v, Val.num, hc1, hf1]) rfl ⟨rfl, ?_⟩
    (repeat (first | exact Below.refl _ _ | refine Below.alloc ?_ (by simp <;> omega) _ | refine Below.setCell ?_ (by simp <;> omega) _ | refine Below.trans ?_ (Below.mono (by assumption) (by first | omega | (simp; omega)))))
  · rcases Bool.eq_false_or_eq_true (x.k == 2) with k2 | k2
    · have hv : cleanV x = .str x.s := by simp [cleanV, k1, k2]
      rw [hv]
      clear hv
      go_enter Try.func32, Try.ntmps32
      go_wp2_with (go_at_call 34; refine (rstr_any _ _).mono ?_; rintro e w1 ⟨rfl, hb1⟩; obtain ⟨hc1, hf1⟩ := bcell hb1; rw [Val.open_])
      refine bodyPost_ret (v := (Val.str x.s).v) (by simp [results, Try.results32, go_sem, Val.v, Val.str, hc1, hf1]) rfl ⟨rfl, ?_⟩
      (repeat (first | exact Below.refl _ _ | refine Below.alloc ?_ (by simp <;> omega) _ | refine Below.setCell ?_ (by simp <;> omega) _ | refine Below.trans ?_ (Below.mono (by assumption) (by first | omega | (simp; omega)))))
    · have hv : cleanV x = .null := by simp [cleanV, k1, k2]
      rw [hv]
      clear hv
      go_enter Try.func32, Try.ntmps32
      go_wp2_with (go_at_call 12; refine (none_any _).mono ?_; rintro e w1 ⟨rfl, hb1⟩; obtain ⟨hc1, hf1⟩ := bcell hb1; rw [Val.open_])
      refine bodyPost_ret (v := Val.null.v) (by simp [results, Try.results32, go_sem, Val.v, Val.null, hc1, hf1]) rfl ⟨rfl, ?_⟩
      (repeat (first | exact Below.refl _ _ | refine Below.alloc ?_ (by simp <;> omega) _ | refine Below.setCell ?_ (by simp <;> omega) _ | refine Below.trans ?_ (Below.mono (by assumption) (by first | omega | (simp; omega)))))


set_option maxHeartbeats 400000 in
theorem rtrue_any (x : Val) (w : World) :
    Calls Try.prog 40 #[x.v] w fun e w' => e = .returned (.bool (trueB x)) ∧ Below w.heap.size w w' := by
  rw [x.open_]
  unfold trueB
  by_cases hk : (x.k == 1) = true
  · go_enter Try.func40, Try.ntmps40
    go_wp2
    go_ret
    exact ⟨by simp [hk], (Below.refl _ _).alloc (Nat.le_refl _) _⟩
  · have hk' : (x.k == 1) = false := by simpa using hk
    clear hk
    go_enter Try.func40, Try.ntmps40
    go_wp2
    go_ret
    exact ⟨by simp [hk'], (Below.refl _ _).alloc (Nat.le_refl _) _⟩

theorem iskind_any (k : Int) (w : World) :
    Calls Try.prog 28 #[.int .i64 k] w fun e w' => e = .returned (.bool (kindB k)) ∧ w' = w := by
  unfold kindB
  by_cases hk : (k == 1) = true
  · go_enter Try.func28, Try.ntmps28
    go_wp2
    go_ret
    exact ⟨by simp [hk], rfl⟩
  · have hk' : (k == 1) = false := by simpa using hk
    clear hk
    go_enter Try.func28, Try.ntmps28
    go_wp2
    go_ret
    exact ⟨by simp [hk'], rfl⟩
theorem islarge_any (s : ByteArray) (w : World) :
    Calls Try.prog 30 #[.string s] w fun e w' => e = .returned (.bool (largeB s)) ∧ w' = w := by
  unfold largeB
  go_enter Try.func30, Try.ntmps30
  go_wp2
  go_ret
  exact ⟨rfl, rfl⟩
theorem num_any (n : Int) (w : World) (h : -9223372036854775808 ≤ n ∧ n ≤ 9223372036854775807) :
    Calls Try.prog 8 #[.int .i64 n] w fun e w' => e = .returned (.int .i64 n) ∧ w' = w := by
  obtain ⟨h1, h2⟩ := h
  go_enter Try.func8, Try.ntmps8
  go_wp2
  go_ret
  exact ⟨rfl, rfl⟩
end Go.Proofs.Ytifohbapfciniab
