import Derived.Test.YtcpndojkfngioaaGreatChecked
import Derived.WalkKit
import Derived.WalkSpells
import Derived.WalkLawsBesides
import Derived.StillTactics
import Derived.Deep.RegionHeld3
import Derived.Lib.QuietBelow
import Derived.BigQuiet
import Derived.RowKit3
set_option linter.unusedSimpArgs false
set_option linter.unusedVariables false
namespace Go.Proofs.YtcpndojkfngioaaGreat
open Go.RowKit

/-- A value of the program: its kind, its number, its text. -/
structure Val where
  k : Int
  n : Int
  s : ByteArray

def Val.v (x : Val) : Value := .agg #[.int .i64 x.k, .int .i64 x.n, .string x.s]
theorem Val.open_ (x : Val) : x.v = .agg #[.int .i64 x.k, .int .i64 x.n, .string x.s] := rfl
def Val.null : Val := ⟨0, 0, ⟨#[]⟩⟩
def Val.num (n : Int) : Val := ⟨1, n, ⟨#[]⟩⟩
def Val.str (s : ByteArray) : Val := ⟨2, 0, s⟩
def truthV (b : Bool) : Val := .num (if b then 1 else 0)
def trueB (x : Val) : Bool := x.k == 1 && x.n != 0
def falseB (x : Val) : Bool := x.k == 1 && x.n == 0
def notV (x : Val) : Val := if x.k = 1 then truthV (!trueB x) else .null
def bothV (op : Int) (a b : Val) : Val :=
  if op = 19 then (if falseB a || falseB b then truthV false else if a.k == 1 && b.k == 1 then truthV true else .null)
  else if op = 20 then (if trueB a || trueB b then truthV true else if a.k == 1 && b.k == 1 then truthV false else .null)
  else .null

theorem bcell {W w1 : World} (hb : Below W.heap.size W w1) : (∀ b o, b < W.heap.size → w1.cell? ⟨b, o, none⟩ = W.cell? ⟨b, o, none⟩) ∧ (∀ b o, b < W.heap.size → w1.frozen? ⟨b, o, none⟩ = W.frozen? ⟨b, o, none⟩) :=
  ⟨fun b o h => hb.cell (p := ⟨b, o, none⟩) h, fun b o h => hb.frozen (p := ⟨b, o, none⟩) h⟩

theorem number_any (n : Int) (w : World) :
    Calls Tryz.prog 98 #[.int .i64 n] w fun e w' => e = .returned (Val.num n).v ∧ Below w.heap.size w w' := by
  unfold Val.v Val.num
  go_enter Tryz.func98, Tryz.ntmps98
  go_wp2
  exact bodyPost_ret (v := .agg #[.int .i64 1, .int .i64 n, .string ⟨#[]⟩]) (by simp [results, Tryz.results98, go_sem]) rfl ⟨rfl, (Below.refl _ _).alloc (Nat.le_refl _) _⟩

end Go.Proofs.YtcpndojkfngioaaGreat
set_option linter.unusedSimpArgs false
set_option linter.unusedVariables false
namespace Go.Proofs.YtcpndojkfngioaaGreat
open Go.RowKit

theorem hide {p : Prop} (h : p) : Hid p := h
theorem unhide {p : Prop} (h : Hid p) : p := h
theorem ret2 {k : IntKind} {a a' : Int} {b b' : Bool} (h : a = a') (h2 : b = b') : Ending.returned (.tuple #[.int k a, .bool b]) = .returned (.tuple #[.int k a', .bool b']) := by rw [h, h2]

def least : Int := -9223372036854775808
def fitsB (n : Int) : Bool := decide (-9223372036854775808 ≤ n) && decide (n ≤ 9223372036854775807)
def In64 (n : Int) : Prop := -9223372036854775808 ≤ n ∧ n ≤ 9223372036854775807

theorem wrap_fits {n : Int} (h : fitsB n = true) : wrap64 n = n := by
  simp [fitsB] at h; unfold wrap64; omega
theorem sum_fits (x y : Int) (hx : In64 x) (hy : In64 y) : (decide (x < wrap64 (x + y)) == decide (0 < y)) = fitsB (x + y) := by
  unfold In64 at hx hy
  rw [Bool.eq_iff_iff]
  simp only [fitsB, wrap64, beq_iff_eq, Bool.and_eq_true, decide_eq_true_eq, decide_eq_decide]
  omega
theorem diff_fits (x y : Int) (hx : In64 x) (hy : In64 y) : (decide (wrap64 (x - y) < x) == decide (0 < y)) = fitsB (x - y) := by
  unfold In64 at hx hy
  rw [Bool.eq_iff_iff]
  simp only [fitsB, wrap64, beq_iff_eq, Bool.and_eq_true, decide_eq_true_eq, decide_eq_decide]
  omega
theorem mul_fits (x y : Int) (hx : In64 x) (hy : In64 y) (h0 : ¬ x = 0) (h1 : ¬ (x = -1 ∧ y = least)) : (wrap64 ((wrap64 (x * y)).tdiv x) == y) = fitsB (x * y) := by
  rw [Bool.eq_iff_iff]
  constructor
  · intro h
    have h := beq_iff_eq.1 h
    have e1 := Int.mul_tdiv_add_tmod (wrap64 (x * y)) x
    have e2 : ((wrap64 (x * y)).tmod x).natAbs < x.natAbs := by
      rw [Int.natAbs_tmod]; exact Nat.mod_lt _ (by omega)
    have e4 := Int.natAbs_tdiv_le_natAbs (wrap64 (x * y)) x
    have e5 : wrap64 (x * y) = least → x = -1 → wrap64 ((wrap64 (x * y)).tdiv x) = least := by
      intro h1 h2; rw [h1, h2]; decide +kernel
    have e6 : ¬ x = -1 → 2 * ((wrap64 (x * y)).tdiv x).natAbs ≤ (wrap64 (x * y)).natAbs ∨ x = 1 := by
      intro hx1
      by_cases hx2 : x = 1
      · exact .inr hx2
      · refine .inl ?_
        rw [Int.natAbs_tdiv]
        have : 2 ≤ x.natAbs := by omega
        have h3 := Nat.div_mul_le_self (wrap64 (x * y)).natAbs x.natAbs
        have h4 := Nat.mul_le_mul_left ((wrap64 (x * y)).natAbs / x.natAbs) this
        show 2 * ((wrap64 (x * y)).natAbs / x.natAbs) ≤ _
        omega
    have e7 : x = 1 → (wrap64 (x * y)).tdiv x = wrap64 (x * y) := by intro h; rw [h]; simp
    have hm : In64 (wrap64 (x * y)) := by unfold In64 wrap64; omega
    have e8 : wrap64 ((wrap64 (x * y)).tdiv x) = (wrap64 (x * y)).tdiv x := by
      unfold In64 at hm hx hy
      by_cases hx1 : x = -1
      · have : ¬ wrap64 (x * y) = least := fun hh => h1 ⟨hx1, by rw [← h]; exact e5 hh hx1⟩
        unfold least at this
        generalize wrap64 (x * y) = m at *
        generalize m.tdiv x = q at *
        unfold wrap64
        omega
      · rcases e6 hx1 with e | e
        · generalize wrap64 (x * y) = m at *
          generalize m.tdiv x = q at *
          unfold wrap64
          omega
        · rw [e7 e]
          generalize wrap64 (x * y) = m at *
          unfold wrap64
          omega
    rw [h] at e8
    rw [← e8] at e1
    have hp : ∃ k, wrap64 (x * y) = x * y + 18446744073709551616 * k := by
      unfold wrap64
      exact ⟨-((x * y + 9223372036854775808) / 18446744073709551616), by omega⟩
    obtain ⟨k, hk⟩ := hp
    unfold In64 at hm hx hy
    generalize (wrap64 (x * y)).tmod x = r at *
    generalize wrap64 (x * y) = m at *
    simp only [fitsB, Bool.and_eq_true, decide_eq_true_eq]
    omega
  · intro h
    rw [wrap_fits h, Int.mul_tdiv_cancel_left _ h0]
    unfold In64 at hy
    rw [wrap_fits (by simp [fitsB]; omega)]
    simp

/-- The exact result, where there is one that fits. -/
def reck (op x y : Int) : Option Int :=
  if op = 7 then (if fitsB (x + y) then some (x + y) else none)
  else if op = 8 then (if fitsB (x - y) then some (x - y) else none)
  else if op = 9 then (if fitsB (x * y) then some (x * y) else none)
  else if op = 10 then (if y = 0 then none else if fitsB (x.tdiv y) then some (x.tdiv y) else none)
  else if op = 11 then (if y = 0 then none else some (x.tmod y))
  else none
def optV : Option Int → Val
  | some n => .num n
  | none => .null
def reckV (op : Int) (a b : Val) : Val := if a.k == 1 && b.k == 1 then optV (reck op a.n b.n) else .null

theorem tdiv_fits (x y : Int) (hx : In64 x) (hy : ¬ y = 0) : fitsB (x.tdiv y) = !(decide (x = least) && decide (y = -1)) := by
  have e4 := Int.natAbs_tdiv_le_natAbs x y
  unfold In64 at hx
  rw [Bool.eq_iff_iff]
  simp only [fitsB, Bool.and_eq_true, decide_eq_true_eq, Bool.not_eq_true', Bool.and_eq_false_iff, decide_eq_false_iff_not]
  by_cases h : x = least
  · subst h
    by_cases h2 : y = -1
    · subst h2; decide +kernel
    · by_cases h3 : y = 1
      · subst h3; decide +kernel
      · have e6 : 2 * ((least).tdiv y).natAbs ≤ least.natAbs := by
          rw [Int.natAbs_tdiv]
          have : 2 ≤ y.natAbs := by omega
          have h3 := Nat.div_mul_le_self least.natAbs y.natAbs
          have h4 := Nat.mul_le_mul_left (least.natAbs / y.natAbs) this
          show 2 * (least.natAbs / y.natAbs) ≤ _
          omega
        unfold least at *
        omega
  · unfold least at *
    omega

/-- What 'result' hands back. -/
def Got (o : Option Int) (e : Ending) : Prop := ∃ n, e = .returned (.tuple #[.int .i64 n, .bool o.isSome]) ∧ ∀ m, o = some m → n = m

theorem got_of {o : Option Int} {n : Int} {b : Bool} (hb : o.isSome = b) (h : ∀ m, o = some m → n = m) : Got o (.returned (.tuple #[.int .i64 n, .bool b])) := ⟨n, by rw [hb], h⟩

theorem got_add (x y : Int) (hx : In64 x) (hy : In64 y) : Got (reck 7 x y) (.returned (.tuple #[.int .i64 (wrap64 (x + y)), .bool (decide (x < wrap64 (x + y)) == decide (0 < y))])) := by
  rw [sum_fits x y hx hy]
  by_cases h : fitsB (x + y) = true
  · exact got_of (by simp [reck, h]) (by intro m hm; simp [reck, h] at hm; rw [wrap_fits h, hm])
  · exact got_of (by simp [reck, h]) (by intro m hm; simp [reck, h] at hm)
theorem got_sub (x y : Int) (hx : In64 x) (hy : In64 y) : Got (reck 8 x y) (.returned (.tuple #[.int .i64 (wrap64 (x - y)), .bool (decide (wrap64 (x - y) < x) == decide (0 < y))])) := by
  rw [diff_fits x y hx hy]
  by_cases h : fitsB (x - y) = true
  · exact got_of (by simp [reck, h]) (by intro m hm; simp [reck, h] at hm; rw [wrap_fits h, hm])
  · exact got_of (by simp [reck, h]) (by intro m hm; simp [reck, h] at hm)
end Go.Proofs.YtcpndojkfngioaaGreat
