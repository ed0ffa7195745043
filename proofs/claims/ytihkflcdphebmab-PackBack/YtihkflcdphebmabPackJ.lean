import Derived.Test.YtihkflcdphebmabPackI
import Derived.Test.YtihkflcdphebmabPackF
set_option linter.unusedSimpArgs false
set_option linter.unusedVariables false
namespace Go.Proofs.Ytihkflcdphebmab
open Go.RowKit Go.Sort

/-- Numbers of d bits each, the first in the lowest bits. -/
def total (d : Nat) : List Nat → Nat
  | [] => 0
  | n :: ns => n % 2 ^ d + 2 ^ d * total d ns
theorem total_snoc (d : Nat) (n : Nat) : ∀ ns : List Nat, total d (ns ++ [n]) = total d ns + 2 ^ (d * ns.length) * (n % 2 ^ d)
  | [] => by simp [total]
  | m :: ns => by
    have ih := total_snoc d n ns
    simp only [List.cons_append, total, List.length_cons]
    rw [ih, Nat.mul_add, Nat.mul_succ, Nat.pow_add, Nat.add_assoc, Nat.mul_comm (2 ^ (d * ns.length)) (2 ^ d), Nat.mul_assoc]
theorem total_lt (d : Nat) : ∀ ns : List Nat, total d ns < 2 ^ (d * ns.length)
  | [] => by simp [total]
  | n :: ns => by
    have ih := total_lt d ns
    have h1 : n % 2 ^ d < 2 ^ d := Nat.mod_lt _ (Nat.two_pow_pos d)
    simp only [total, List.length_cons]
    rw [Nat.mul_succ, Nat.pow_add, Nat.mul_comm (2 ^ (d * ns.length)) (2 ^ d)]
    have h2 : 2 ^ d * total d ns + 2 ^ d ≤ 2 ^ d * 2 ^ (d * ns.length) := by
      rw [← Nat.mul_succ]; exact Nat.mul_le_mul_left _ ih
    omega
/-- A byte of a number, the low one first. -/
def byteN (T j : Nat) : Nat := T / 256 ^ j % 256
theorem pow256 (j : Nat) : 256 ^ j = 2 ^ (8 * j) := by rw [Nat.pow_mul]
theorem byte_add {T p x : Nat} (hT : T < 2 ^ p) (hx : x < 2 ^ (8 - p % 8)) (i : Nat) :
    byteN (T + x * 2 ^ p) i = if i = p / 8 then byteN T i + x * 2 ^ (p % 8) else byteN T i := by
  obtain ⟨q, r, hp, hr⟩ : ∃ q r, p = 8 * q + r ∧ r < 8 := ⟨p / 8, p % 8, by omega, by omega⟩
  have e1 : p / 8 = q := by omega
  have e2 : p % 8 = r := by omega
  rw [e2] at hx
  rw [e1, e2]
  clear e1 e2
  have e3 : 2 ^ p = 256 ^ q * 2 ^ r := by rw [hp, Nat.pow_add, pow256]
  rw [e3] at hT ⊢
  have hxr : (x + 1) * 2 ^ r ≤ 256 := by
    have : 2 ^ (8 - r) * 2 ^ r = 256 := by rw [← Nat.pow_add, show 8 - r + r = 8 by omega]
    rw [← this]
    exact Nat.mul_le_mul_right _ hx
  have hq : T / 256 ^ q < 2 ^ r := Nat.div_lt_of_lt_mul hT
  have hpos : ∀ k, 0 < 256 ^ k := fun k => Nat.pow_pos (by decide)
  have e4 : x * (256 ^ q * 2 ^ r) = 256 ^ q * (x * 2 ^ r) := by rw [Nat.mul_left_comm]
  rw [e4]
  unfold byteN
  by_cases h : i = q
  · subst h
    rw [if_pos rfl, Nat.add_mul_div_left _ _ (hpos _)]
    have h2 : 2 ^ r ≤ 256 := by
      have : (2 : Nat) ^ r ≤ 2 ^ 8 := Nat.pow_le_pow_right (by decide) (by omega)
      simpa using this
    rw [Nat.mod_eq_of_lt (by rw [Nat.add_mul] at hxr; omega), Nat.mod_eq_of_lt (by omega)]
  · rw [if_neg h]
    by_cases h1 : i < q
    · obtain ⟨s, rfl⟩ : ∃ s, q = i + 1 + s := ⟨q - i - 1, by omega⟩
      have e5 : 256 ^ (i + 1 + s) * (x * 2 ^ r) = 256 ^ i * (256 * (256 ^ s * (x * 2 ^ r))) := by
        rw [Nat.pow_add, Nat.pow_succ]
        simp only [Nat.mul_assoc]
      rw [e5, Nat.add_mul_div_left _ _ (hpos _), Nat.add_mul_mod_self_left]
    · have h3 : 256 ^ (q + 1) ≤ 256 ^ i := Nat.pow_le_pow_right (by decide) (by omega)
      have h4 : T + 256 ^ q * (x * 2 ^ r) < 256 ^ (q + 1) := by
        have h5 : 256 ^ q * ((x + 1) * 2 ^ r) ≤ 256 ^ q * 256 := Nat.mul_le_mul_left _ hxr
        rw [Nat.add_mul, Nat.one_mul, Nat.mul_add] at h5
        rw [Nat.pow_succ]
        omega
      rw [Nat.div_eq_of_lt (by omega), Nat.div_eq_of_lt (by omega)]
theorem byte_low {T p : Nat} (hT : T < 2 ^ p) : byteN T (p / 8) < 2 ^ (p % 8) := by
  have e3 : 2 ^ p = 256 ^ (p / 8) * 2 ^ (p % 8) := by
    rw [pow256, ← Nat.pow_add]
    congr 1
    omega
  rw [e3] at hT
  exact Nat.lt_of_le_of_lt (Nat.mod_le _ _) (Nat.div_lt_of_lt_mul hT)
theorem or_u8 (a b : Nat) (ha : a < 256) (hb : b < 256) : bits .or .u8 (a : Int) (b : Int) = ((a ||| b : Nat) : Int) := by
  have hx : a ||| b < 2 ^ 8 := Nat.or_lt_two_pow (by omega) (by omega)
  have h1 : (BitVec.ofInt 8 (a : Int)).toNat = a := by
    rw [BitVec.ofInt_natCast, BitVec.toNat_ofNat]; exact Nat.mod_eq_of_lt (by omega)
  have h2 : (BitVec.ofInt 8 (b : Int)).toNat = b := by
    rw [BitVec.ofInt_natCast, BitVec.toNat_ofNat]; exact Nat.mod_eq_of_lt (by omega)
  show IntKind.u8.wrap ((BitVec.ofInt 8 (a : Int) ||| BitVec.ofInt 8 (b : Int)).toNat : Int) = _
  rw [BitVec.toNat_or, h1, h2]
  simp [IntKind.wrap, IntKind.signed, IntKind.bits]
  omega
theorem or_add {a x r : Nat} (h : a < 2 ^ r) : a ||| x * 2 ^ r = a + x * 2 ^ r := by
  rw [Nat.or_comm, Nat.mul_comm, ← Nat.two_pow_add_eq_or_of_lt h x, Nat.add_comm]
/-- The bytes of a number, the low one first. -/
def leB (T m : Nat) : List Int := (List.range m).map fun j => (byteN T j : Int)
theorem leB_len (T m : Nat) : (leB T m).length = m := by simp [leB]
def leF (T : Nat) (j : Nat) : Value := .int .u8 (byteN T j : Int)
theorem byteN_zero (j : Nat) : byteN 0 j = 0 := by simp [byteN]
theorem byteN_lt (T j : Nat) : byteN T j < 256 := Nat.mod_lt _ (by decide)
theorem Try.info91 : (Try.prog.info? 91).map (fun i => (i.zero, i.size, i.bytes)) = some (some (.int .u64 0), 1, 8) := by kernel_rfl
theorem own_of_le {w : World} {g m T : Nat} (h : w.rowIs g 5 m (leF T)) (hm : m ≤ maxLen) : OwnB w g (.slice (some ⟨g, 0, none⟩) m m) (leB T m) := by
  obtain ⟨cs, hcs, hsz, hcell⟩ := h
  unfold OwnB
  rw [leB_len]
  refine ⟨by simp [leB], .inr ⟨g, m, cs, rfl, Nat.le_refl _, hcs, Nat.le_refl _, hm, by omega, ?_⟩⟩
  have hl : cs.toList.length = m := by rw [Array.length_toList]; exact hsz
  rw [List.take_of_length_le (by omega)]
  refine List.ext_getElem? fun i => ?_
  by_cases hi : i < m
  · have := hcell i hi
    rw [Array.getElem?_toList, this]
    simp [leB, leF, hi]
  · rw [List.getElem?_eq_none (by omega), List.getElem?_eq_none (by simp [leB]; omega)]

end Go.Proofs.Ytihkflcdphebmab
