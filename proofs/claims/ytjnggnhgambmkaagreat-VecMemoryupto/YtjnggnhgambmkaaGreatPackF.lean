import Derived.Test.YtjnggnhgambmkaaGreatPackB
import Derived.Test.YtjnggnhgambmkaaGreatPackI
set_option linter.unusedSimpArgs false
set_option linter.unusedVariables false
namespace Go.Proofs.YtjnggnhgambmkaaGreat
open Go.RowKit Go.Sort

/-- How many bits a number takes. -/
def bl (n : Nat) : Nat := if n = 0 then 0 else Nat.log2 n + 1
theorem bl_zero : bl 0 = 0 := rfl
theorem bl_pos {n : Nat} (h : 0 < n) : bl n = bl (n / 2) + 1 := by
  unfold bl
  rw [if_neg (by omega)]
  by_cases h1 : n = 1
  · subst h1; rfl
  · rw [if_neg (by omega), Nat.log2_def, if_pos (by omega)]
theorem tab_at (T : ByteArray) (hs : T.size = 256) (h : (List.range 256).all (fun m => (T.data.toList.getD m 0).toNat == bl m) = true) (n : Nat) (hn : n < T.size) : ((T[n]).toNat : Int) = bl n := by
  have h1 := List.all_eq_true.1 h n (List.mem_range.2 (by omega))
  have e : T.data.toList.getD n 0 = T[n] := by
    have hn' : n < T.data.toList.length := by rw [Array.length_toList]; exact hn
    rw [List.getD_eq_getElem?_getD, List.getElem?_eq_getElem hn']
    rfl
  rw [e] at h1
  simp at h1
  rw [h1]
theorem bl_shift : ∀ (s n : Nat), 0 < n / 2 ^ s → bl n = bl (n / 2 ^ s) + s
  | 0, n, _ => by simp
  | s + 1, n, h => by
    have e : n / 2 ^ (s + 1) = n / 2 / 2 ^ s := by rw [Nat.pow_succ, Nat.mul_comm, Nat.div_div_eq_div_mul]
    have hn : 0 < n := by
      refine Nat.pos_of_ne_zero fun h0 => ?_
      subst h0
      simp at h
    rw [bl_pos hn, bl_shift s (n / 2) (by rw [← e]; exact h), ← e]
    omega

theorem bl_small {m : Nat} (h : m < 256) : bl m ≤ 8 := by
  have : ∀ k : Fin 256, bl k.val ≤ 8 := by decide +kernel
  exact this ⟨m, h⟩

theorem wrap_len {k : Int} {a c : Nat} (hk : 0 ≤ k ∧ k ≤ 56) (ha : a ≤ 8) (hc : (c : Int) = k + a) : wrap64 (k + wrap64 (a : Int)) = c := by
  unfold wrap64
  omega
theorem wrap_lenz {a c : Nat} (ha : a ≤ 8) (hc : (c : Int) = a) : wrap64 (wrap64 (a : Int)) = c := by
  unfold wrap64
  omega

set_option maxHeartbeats 2000000 in
set_option maxRecDepth 100000 in
theorem len64_any (n : Nat) (w : World) (hn : n < 18446744073709551616) :
    Calls Tryz.prog 69 #[.int .u64 n] w fun e w' => e = .returned (.int .i64 (bl n)) ∧ w' = w := by
  have HBL : Hid (bl n = bl n + 0) := rfl
  by_cases h0 : (4294967296 : Int) ≤ (n : Int)
  · obtain ⟨m0, e0⟩ : ∃ m0 : Nat, (n : Int) / 4294967296 = (m0 : Int) := ⟨n / 4294967296, by simp⟩
    have hb0 : bl n = bl m0 + 32 := by
      have h1 : m0 = n / 2 ^ 32 := by have : (2 : Nat) ^ 32 = 4294967296 := (by decide); rw [this]; omega
      rw [h1]; exact bl_shift 32 n (by rw [← h1]; omega)
    replace HBL : Hid (bl n = bl m0 + 32) := by show _ = _; have := unhide HBL; omega
    clear hb0
    have t0 : (m0 : Int) < 4294967296 := by omega
    by_cases h1 : (65536 : Int) ≤ (m0 : Int)
    · obtain ⟨m1, e1⟩ : ∃ m1 : Nat, (m0 : Int) / 65536 = (m1 : Int) := ⟨m0 / 65536, by simp⟩
      have hb1 : bl m0 = bl m1 + 16 := by
        have h1 : m1 = m0 / 2 ^ 16 := by have : (2 : Nat) ^ 16 = 65536 := (by decide); rw [this]; omega
        rw [h1]; exact bl_shift 16 m0 (by rw [← h1]; omega)
      replace HBL : Hid (bl n = bl m1 + 48) := by show _ = _; have := unhide HBL; omega
      clear hb1
      have t1 : (m1 : Int) < 65536 := by omega
      by_cases h2 : (256 : Int) ≤ (m1 : Int)
      · obtain ⟨m2, e2⟩ : ∃ m2 : Nat, (m1 : Int) / 256 = (m2 : Int) := ⟨m1 / 256, by simp⟩
        have hb2 : bl m1 = bl m2 + 8 := by
          have h1 : m2 = m1 / 2 ^ 8 := by have : (2 : Nat) ^ 8 = 256 := (by decide); rw [this]; omega
          rw [h1]; exact bl_shift 8 m1 (by rw [← h1]; omega)
        replace HBL : Hid (bl n = bl m2 + 56) := by show _ = _; have := unhide HBL; omega
        clear hb2
        have t2 : (m2 : Int) < 256 := by omega
        go_enter Tryz.func69, Tryz.ntmps69
        go_wp2
        go_ret
        refine ⟨?_, rfl⟩
        show Ending.returned (Value.int IntKind.i64 _) = _
        rw [tab_at _ (by decide +kernel) (by decide +kernel) m2]
        first | rw [wrap_len (c := bl n) (by omega) (bl_small (by omega)) (by have := unhide HBL; omega)] | rw [wrap_lenz (c := bl n) (bl_small (by omega)) (by have := unhide HBL; omega)]
      · go_enter Tryz.func69, Tryz.ntmps69
        go_wp2
        go_ret
        refine ⟨?_, rfl⟩
        show Ending.returned (Value.int IntKind.i64 _) = _
        rw [tab_at _ (by decide +kernel) (by decide +kernel) m1]
        first | rw [wrap_len (c := bl n) (by omega) (bl_small (by omega)) (by have := unhide HBL; omega)] | rw [wrap_lenz (c := bl n) (bl_small (by omega)) (by have := unhide HBL; omega)]
    · by_cases h2 : (256 : Int) ≤ (m0 : Int)
      · obtain ⟨m2, e2⟩ : ∃ m2 : Nat, (m0 : Int) / 256 = (m2 : Int) := ⟨m0 / 256, by simp⟩
        have hb2 : bl m0 = bl m2 + 8 := by
          have h1 : m2 = m0 / 2 ^ 8 := by have : (2 : Nat) ^ 8 = 256 := (by decide); rw [this]; omega
          rw [h1]; exact bl_shift 8 m0 (by rw [← h1]; omega)
        replace HBL : Hid (bl n = bl m2 + 40) := by show _ = _; have := unhide HBL; omega
        clear hb2
        have t2 : (m2 : Int) < 256 := by omega
        go_enter Tryz.func69, Tryz.ntmps69
        go_wp2
        go_ret
        refine ⟨?_, rfl⟩
        show Ending.returned (Value.int IntKind.i64 _) = _
        rw [tab_at _ (by decide +kernel) (by decide +kernel) m2]
        first | rw [wrap_len (c := bl n) (by omega) (bl_small (by omega)) (by have := unhide HBL; omega)] | rw [wrap_lenz (c := bl n) (bl_small (by omega)) (by have := unhide HBL; omega)]
      · go_enter Tryz.func69, Tryz.ntmps69
        go_wp2
        go_ret
        refine ⟨?_, rfl⟩
        show Ending.returned (Value.int IntKind.i64 _) = _
        rw [tab_at _ (by decide +kernel) (by decide +kernel) m0]
        first | rw [wrap_len (c := bl n) (by omega) (bl_small (by omega)) (by have := unhide HBL; omega)] | rw [wrap_lenz (c := bl n) (bl_small (by omega)) (by have := unhide HBL; omega)]
  · by_cases h1 : (65536 : Int) ≤ (n : Int)
    · obtain ⟨m1, e1⟩ : ∃ m1 : Nat, (n : Int) / 65536 = (m1 : Int) := ⟨n / 65536, by simp⟩
      have hb1 : bl n = bl m1 + 16 := by
        have h1 : m1 = n / 2 ^ 16 := by have : (2 : Nat) ^ 16 = 65536 := (by decide); rw [this]; omega
        rw [h1]; exact bl_shift 16 n (by rw [← h1]; omega)
      replace HBL : Hid (bl n = bl m1 + 16) := by show _ = _; have := unhide HBL; omega
      clear hb1
      have t1 : (m1 : Int) < 65536 := by omega
      by_cases h2 : (256 : Int) ≤ (m1 : Int)
      · obtain ⟨m2, e2⟩ : ∃ m2 : Nat, (m1 : Int) / 256 = (m2 : Int) := ⟨m1 / 256, by simp⟩
        have hb2 : bl m1 = bl m2 + 8 := by
          have h1 : m2 = m1 / 2 ^ 8 := by have : (2 : Nat) ^ 8 = 256 := (by decide); rw [this]; omega
          rw [h1]; exact bl_shift 8 m1 (by rw [← h1]; omega)
        replace HBL : Hid (bl n = bl m2 + 24) := by show _ = _; have := unhide HBL; omega
        clear hb2
        have t2 : (m2 : Int) < 256 := by omega
        go_enter Tryz.func69, Tryz.ntmps69
        go_wp2
        go_ret
        refine ⟨?_, rfl⟩
        show Ending.returned (Value.int IntKind.i64 _) = _
        rw [tab_at _ (by decide +kernel) (by decide +kernel) m2]
        first | rw [wrap_len (c := bl n) (by omega) (bl_small (by omega)) (by have := unhide HBL; omega)] | rw [wrap_lenz (c := bl n) (bl_small (by omega)) (by have := unhide HBL; omega)]
      · go_enter Tryz.func69, Tryz.ntmps69
        go_wp2
        go_ret
        refine ⟨?_, rfl⟩
        show Ending.returned (Value.int IntKind.i64 _) = _
        rw [tab_at _ (by decide +kernel) (by decide +kernel) m1]
        first | rw [wrap_len (c := bl n) (by omega) (bl_small (by omega)) (by have := unhide HBL; omega)] | rw [wrap_lenz (c := bl n) (bl_small (by omega)) (by have := unhide HBL; omega)]
    · by_cases h2 : (256 : Int) ≤ (n : Int)
      · obtain ⟨m2, e2⟩ : ∃ m2 : Nat, (n : Int) / 256 = (m2 : Int) := ⟨n / 256, by simp⟩
        have hb2 : bl n = bl m2 + 8 := by
          have h1 : m2 = n / 2 ^ 8 := by have : (2 : Nat) ^ 8 = 256 := (by decide); rw [this]; omega
          rw [h1]; exact bl_shift 8 n (by rw [← h1]; omega)
        replace HBL : Hid (bl n = bl m2 + 8) := by show _ = _; have := unhide HBL; omega
        clear hb2
        have t2 : (m2 : Int) < 256 := by omega
        go_enter Tryz.func69, Tryz.ntmps69
        go_wp2
        go_ret
        refine ⟨?_, rfl⟩
        show Ending.returned (Value.int IntKind.i64 _) = _
        rw [tab_at _ (by decide +kernel) (by decide +kernel) m2]
        first | rw [wrap_len (c := bl n) (by omega) (bl_small (by omega)) (by have := unhide HBL; omega)] | rw [wrap_lenz (c := bl n) (bl_small (by omega)) (by have := unhide HBL; omega)]
      · go_enter Tryz.func69, Tryz.ntmps69
        go_wp2
        go_ret
        refine ⟨?_, rfl⟩
        show Ending.returned (Value.int IntKind.i64 _) = _
        rw [tab_at _ (by decide +kernel) (by decide +kernel) n]
        first | rw [wrap_len (c := bl n) (by omega) (bl_small (by omega)) (by have := unhide HBL; omega)] | rw [wrap_lenz (c := bl n) (bl_small (by omega)) (by have := unhide HBL; omega)]

theorem blen_any (n : Nat) (w : World) (hn : n < 18446744073709551616) :
    Calls Tryz.prog 78 #[.int .u64 n] w fun e w' => e = .returned (.int .i64 (bl n)) ∧ w' = w := by
  have H := hide (len64_any n w hn)
  generalize bl n = r at *
  go_enter Tryz.func78, Tryz.ntmps78
  go_wp2_with (go_at_call 69; refine (unhide H).mono ?_; rintro e w1 ⟨rfl, rfl⟩)
  go_ret
  exact ⟨rfl, rfl⟩
theorem widthof_any (k : Nat) (w : World) (hk : k ≤ 1000000) :
    Calls Tryz.prog 67 #[.int .i64 k] w fun e w' => e = .returned (.int .i64 (bl (k - 1))) ∧ w' = w := by
  cases k with
  | zero =>
    go_enter Tryz.func67, Tryz.ntmps67
    go_wp2
    go_ret
    exact ⟨rfl, rfl⟩
  | succ m =>
    have H := hide (blen_any m w (by omega))
    rw [Nat.add_sub_cancel]
    generalize bl m = r at *
    have e1 : (((m + 1 : Nat) : Int) == 0) = false := by simp; omega
    have e2 : (((m + 1 : Nat) : Int) - 1) = (m : Int) := by omega
    have e3 : IntKind.u64.wrap (m : Int) = m := by simp [IntKind.wrap, IntKind.signed, IntKind.bits]; omega
    have e4 : (m : Int) ≤ 1000000 := by omega
    generalize ((m + 1 : Nat) : Int) = M at *
    have hM : M ≤ 1000001 := by omega
    have hM0 : 1 ≤ M := by omega
    go_enter Tryz.func67, Tryz.ntmps67
    go_wp2_with (go_at_call 78; refine (unhide H).mono ?_; rintro e w1 ⟨rfl, rfl⟩)
    go_ret
    exact ⟨rfl, rfl⟩
end Go.Proofs.YtjnggnhgambmkaaGreat
set_option linter.unusedSimpArgs false
set_option linter.unusedVariables false
namespace Go.Proofs.YtjnggnhgambmkaaGreat
open Go.RowKit Go.Sort

/-- Numbers of d bits each, the first in the lowest bits. -/
def total (d : Nat) : List Nat → Nat
  | [] => 0
  | n :: ns => n % 2 ^ d + 2 ^ d * total d ns
theorem total_snoc (d : Nat) (n : Nat) : ∀ ns : List Nat, total d (ns ++ [n]) = total d ns + 2 ^ (d * ns.length) * (n % 2 ^ d)
  | [] => by simp [total]
  | m :: ns => by
    have ih := total_snoc d n ns
    simp only [List.cons_append, total, List.length_cons]
    rw [ih, Nat.mul_add, Nat.mul_succ, Nat.pow_add, Nat.add_assoc, Nat.mul_comm (2 ^ (d * ns.length)) (2 ^ d), Nat.mul_assoc]
theorem total_lt (d : Nat) : ∀ ns : List Nat, total d ns < 2 ^ (d * ns.length)
  | [] => by simp [total]
  | n :: ns => by
    have ih := total_lt d ns
    have h1 : n % 2 ^ d < 2 ^ d := Nat.mod_lt _ (Nat.two_pow_pos d)
    simp only [total, List.length_cons]
    rw [Nat.mul_succ, Nat.pow_add, Nat.mul_comm (2 ^ (d * ns.length)) (2 ^ d)]
    have h2 : 2 ^ d * total d ns + 2 ^ d ≤ 2 ^ d * 2 ^ (d * ns.length) := by
      rw [← Nat.mul_succ]; exact Nat.mul_le_mul_left _ ih
    omega
/-- A byte of a number, the low one first. -/
def byteN (T j : Nat) : Nat := T / 256 ^ j % 256
theorem pow256 (j : Nat) : 256 ^ j = 2 ^ (8 * j) := by rw [Nat.pow_mul]
theorem byte_add {T p x : Nat} (hT : T < 2 ^ p) (hx : x < 2 ^ (8 - p % 8)) (i : Nat) :
    byteN (T + x * 2 ^ p) i = if i = p / 8 then byteN T i + x * 2 ^ (p % 8) else byteN T i := by
  obtain ⟨q, r, hp, hr⟩ : ∃ q r, p = 8 * q + r ∧ r < 8 := ⟨p / 8, p % 8, by omega, by omega⟩
  have e1 : p / 8 = q := by omega
  have e2 : p % 8 = r := by omega
  rw [e2] at hx
  rw [e1, e2]
  clear e1 e2
  have e3 : 2 ^ p = 256 ^ q * 2 ^ r := by rw [hp, Nat.pow_add, pow256]
  rw [e3] at hT ⊢
  have hxr : (x + 1) * 2 ^ r ≤ 256 := by
    have : 2 ^ (8 - r) * 2 ^ r = 256 := by rw [← Nat.pow_add, show 8 - r + r = 8 by omega]
    rw [← this]
    exact Nat.mul_le_mul_right _ hx
  have hq : T / 256 ^ q < 2 ^ r := Nat.div_lt_of_lt_mul hT
  have hpos : ∀ k, 0 < 256 ^ k := fun k => Nat.pow_pos (by decide)
  have e4 : x * (256 ^ q * 2 ^ r) = 256 ^ q * (x * 2 ^ r) := by rw [Nat.mul_left_comm]
  rw [e4]
  unfold byteN
  by_cases h : i = q
  · subst h
    rw [if_pos rfl, Nat.add_mul_div_left _ _ (hpos _)]
    have h2 : 2 ^ r ≤ 256 := by
      have : (2 : Nat) ^ r ≤ 2 ^ 8 := Nat.pow_le_pow_right (by decide) (by omega)
      simpa using this
    rw [Nat.mod_eq_of_lt (by rw [Nat.add_mul] at hxr; omega), Nat.mod_eq_of_lt (by omega)]
  · rw [if_neg h]
    by_cases h1 : i < q
    · obtain ⟨s, rfl⟩ : ∃ s, q = i + 1 + s := ⟨q - i - 1, by omega⟩
      have e5 : 256 ^ (i + 1 + s) * (x * 2 ^ r) = 256 ^ i * (256 * (256 ^ s * (x * 2 ^ r))) := by
        rw [Nat.pow_add, Nat.pow_succ]
        simp only [Nat.mul_assoc]
      rw [e5, Nat.add_mul_div_left _ _ (hpos _), Nat.add_mul_mod_self_left]
    · have h3 : 256 ^ (q + 1) ≤ 256 ^ i := Nat.pow_le_pow_right (by decide) (by omega)
      have h4 : T + 256 ^ q * (x * 2 ^ r) < 256 ^ (q + 1) := by
        have h5 : 256 ^ q * ((x + 1) * 2 ^ r) ≤ 256 ^ q * 256 := Nat.mul_le_mul_left _ hxr
        rw [Nat.add_mul, Nat.one_mul, Nat.mul_add] at h5
        rw [Nat.pow_succ]
        omega
      rw [Nat.div_eq_of_lt (by omega), Nat.div_eq_of_lt (by omega)]
theorem byte_low {T p : Nat} (hT : T < 2 ^ p) : byteN T (p / 8) < 2 ^ (p % 8) := by
  have e3 : 2 ^ p = 256 ^ (p / 8) * 2 ^ (p % 8) := by
    rw [pow256, ← Nat.pow_add]
    congr 1
    omega
  rw [e3] at hT
  exact Nat.lt_of_le_of_lt (Nat.mod_le _ _) (Nat.div_lt_of_lt_mul hT)
theorem or_u8 (a b : Nat) (ha : a < 256) (hb : b < 256) : bits .or .u8 (a : Int) (b : Int) = ((a ||| b : Nat) : Int) := by
  have hx : a ||| b < 2 ^ 8 := Nat.or_lt_two_pow (by omega) (by omega)
  have h1 : (BitVec.ofInt 8 (a : Int)).toNat = a := by
    rw [BitVec.ofInt_natCast, BitVec.toNat_ofNat]; exact Nat.mod_eq_of_lt (by omega)
  have h2 : (BitVec.ofInt 8 (b : Int)).toNat = b := by
    rw [BitVec.ofInt_natCast, BitVec.toNat_ofNat]; exact Nat.mod_eq_of_lt (by omega)
  show IntKind.u8.wrap ((BitVec.ofInt 8 (a : Int) ||| BitVec.ofInt 8 (b : Int)).toNat : Int) = _
  rw [BitVec.toNat_or, h1, h2]
  simp [IntKind.wrap, IntKind.signed, IntKind.bits]
  omega
theorem or_add {a x r : Nat} (h : a < 2 ^ r) : a ||| x * 2 ^ r = a + x * 2 ^ r := by
  rw [Nat.or_comm, Nat.mul_comm, ← Nat.two_pow_add_eq_or_of_lt h x, Nat.add_comm]
/-- The bytes of a number, the low one first. -/
def leB (T m : Nat) : List Int := (List.range m).map fun j => (byteN T j : Int)
theorem leB_len (T m : Nat) : (leB T m).length = m := by simp [leB]
def leF (T : Nat) (j : Nat) : Value := .int .u8 (byteN T j : Int)
theorem byteN_zero (j : Nat) : byteN 0 j = 0 := by simp [byteN]
theorem byteN_lt (T j : Nat) : byteN T j < 256 := Nat.mod_lt _ (by decide)
theorem Tryz.info87 : (Tryz.prog.info? 87).map (fun i => (i.zero, i.size, i.bytes)) = some (some (.int .u64 0), 1, 8) := by kernel_rfl
theorem own_of_le {w : World} {g m T : Nat} (h : w.rowIs g 5 m (leF T)) (hm : m ≤ maxLen) : OwnB w g (.slice (some ⟨g, 0, none⟩) m m) (leB T m) := by
  obtain ⟨cs, hcs, hsz, hcell⟩ := h
  unfold OwnB
  rw [leB_len]
  refine ⟨by simp [leB], .inr ⟨g, m, cs, rfl, Nat.le_refl _, hcs, Nat.le_refl _, hm, by omega, ?_⟩⟩
  have hl : cs.toList.length = m := by rw [Array.length_toList]; exact hsz
  rw [List.take_of_length_le (by omega)]
  refine List.ext_getElem? fun i => ?_
  by_cases hi : i < m
  · have := hcell i hi
    rw [Array.getElem?_toList, this]
    simp [leB, leF, hi]
  · rw [List.getElem?_eq_none (by omega), List.getElem?_eq_none (by simp [leB]; omega)]

end Go.Proofs.YtjnggnhgambmkaaGreat
set_option linter.unusedSimpArgs false
set_option linter.unusedVariables false
namespace Go.Proofs.YtjnggnhgambmkaaGreat
open Go.RowKit Go.Sort Go.Lib

def zeroB (n : Nat) : ByteArray := ⟨Array.replicate n 0⟩
theorem zeroB_size (n : Nat) : (zeroB n).size = n := by simp [zeroB, ByteArray.size]
theorem zeroB_cells (n : Nat) : strCells (zeroB n) = List.replicate n (.int .u8 0) := by simp [strCells, zeroB]
theorem zeroB_map (n : Nat) : ((zeroB n).data.map fun b => Value.int .u8 (b.toNat : Int)) = Builtin.zeroCells (Value.int .u8 0).cells n := by
  apply Array.ext
  · simp [zeroB, Builtin.zeroCells, Value.cells]
  · intro i h1 h2
    simp [zeroB, Builtin.zeroCells, Value.cells, Nat.mod_one]
theorem zeroC_nil : Builtin.zeroCells (Value.int .u8 0).cells 0 = #[] := by simp [Builtin.zeroCells]
theorem zeroC_size (n : Nat) : (Builtin.zeroCells (Value.int .u8 0).cells n).size = n := by simp [Builtin.zeroCells, Value.cells]
set_option maxHeartbeats 1000000 in
theorem append_zeros_eq (ty : TypeId) (i : TypeInfo) (hi : Tryz.prog.info? 5 = some i) (hz : i.zero = some (.int .u8 0)) (hsize : i.size = 1) (hby : i.bytes = 1) (a : Option Addr) (l c n : Nat) (w : World) (hl : l + n ≤ 140737488355328) (hn : n ≤ 1000000000) (hlc : l ≤ c) :
    (Builtin.append_ #[78, 3] ty #[.slice a l c, .int .i64 n]).run Tryz.prog w = (Builtin.append_ #[78, 9] ty #[.slice a l c, .string (zeroB n)]).run Tryz.prog w := by
  have hw : IntKind.i64.wrap (n : Int) = n := by simp [IntKind.wrap, IntKind.signed, IntKind.bits]; omega
  have hf := run_firstCells_string (P := Tryz.prog) w 1 (zeroB n)
  rw [zeroB_size] at hf
  have wz : IntKind.i64.wrap 0 = 0 := by decide
  have h1 : ¬ ((n : Int) < 0) := by omega
  have h2 : ¬ ((n : Int) * 1 > 2 ^ 48) := by omega
  have h3 : ¬ ((281474976710656 : Int) < (n : Int)) := by omega
  have h4 : ¬ ((9223372036854775807 : Int) < (l : Int) + (n : Int)) := by omega
  have htk : List.take n (Builtin.zeroCells (Value.int .u8 0).cells n).toList = (Builtin.zeroCells (Value.int .u8 0).cells n).toList := List.take_of_length_le (by rw [Array.length_toList, zeroC_size]; exact Nat.le_refl _)
  have hex : (Builtin.zeroCells (Value.int .u8 0).cells n).extract 0 n = Builtin.zeroCells (Value.int .u8 0).cells n := by
    apply Array.ext'
    simpa using htk
  by_cases hroom : l + n ≤ c
  · by_cases h0 : n = 0
    · subst h0
      simp at hroom
      simp [wz, hroom, Builtin.append_, run_underlying Tryz.underlying78, run_underlying Tryz.underlying9, run_underlying Tryz.underlying3, sizeOf, typeInfo, hi, hsize, hby, hz, Builtin.lenOf, zeroB_size, hw, asInt, asIntOf, h1, h2, h3, h4, zeroValue, Builtin.firstCells, zeroB_map, zeroC_nil, zeroC_size, IntKind.max, IntKind.signed, IntKind.bits]
    · simp [hroom, h0, Builtin.append_, run_underlying Tryz.underlying78, run_underlying Tryz.underlying9, run_underlying Tryz.underlying3, sizeOf, typeInfo, hi, hsize, hby, hz, Builtin.lenOf, zeroB_size, hw, asInt, asIntOf, h1, h2, h3, h4, zeroValue, Builtin.firstCells, zeroB_map, zeroC_nil, zeroC_size, IntKind.max, IntKind.signed, IntKind.bits, htk, hex]
  have h5 : ¬ (281474976710656 < Builtin.nextslicecap (l + n) c) := by have := growslice_fits (need := l + n) (old := c) (bytes := 1) (by omega) (by omega); omega
  have h0 : ¬ n = 0 := by omega
  simp [hroom, h5, h0, Builtin.append_, run_underlying Tryz.underlying78, run_underlying Tryz.underlying9, run_underlying Tryz.underlying3, sizeOf, typeInfo, hi, hsize, hby, hz, Builtin.lenOf, zeroB_size, hw, asInt, asIntOf, h1, h2, h3, h4, zeroValue, Builtin.firstCells, zeroB_map, zeroC_nil, zeroC_size, IntKind.max, IntKind.signed, IntKind.bits, htk, hex]
theorem wpList_append_zeros {ops : Array Oper} {rest : List Oper} {o : Oper} {a : Act} {Q : Exit → Act → World → Prop} (w : World) (hgd : o.guard = none) (s x : Operand) (ho : o.op = .call { callee := .builtin .append, args := #[s, x], argTypes := #[78, 3] })
    (base : Nat) (v : Value) (n : Nat) (zs : List Int) (hs : a.eval s = v) (hx : a.eval x = .int .i64 (n : Int)) (hown : OwnB w base v zs) (hlen : zs.length + n ≤ 140737488355328) (hn : n ≤ 1000000000) (hbase : base ≤ w.heap.size)
    (h : ∀ v' w', OwnB w' base v' (zs ++ List.replicate n 0) → Grew w w' v v' → wpList Tryz.prog ops Q rest (a.put o.dst v') w') : wpList Tryz.prog ops Q (o :: rest) a w := by
  obtain ⟨i0, hi, hz0, hz1, hz2⟩ := info_parts Tryz.info5
  obtain ⟨v', w', hr, h2, h3, h4⟩ := append_str o.type hi hz0 hz1 hz2 hown (zeroB n) (by rw [zeroB_size]; exact hlen) hbase
  have hv : ∃ aa cap, v = .slice aa zs.length cap ∧ zs.length ≤ cap := by
    rcases hown.2 with ⟨rfl, h0⟩ | ⟨g, cap, cur, rfl, hb, hh, hc, _⟩
    · exact ⟨none, 0, by rw [h0], by omega⟩
    · exact ⟨_, _, rfl, hc⟩
  obtain ⟨aa, cap, rfl, hlc⟩ := hv
  rw [← append_zeros_eq o.type i0 hi hz0 hz1 hz2 aa zs.length cap n w hlen hn hlc] at hr
  refine wpList_plain hgd fun K hK => ?_
  unfold Oper.wp execOp
  simp only [ho, resolve, invoke, builtin, Sem.run_bind, Sem.run_pure, Result.andThen_ok, List.map_toArray, List.map_cons, List.map_nil, hs, hx, hr]
  refine hK _ _ (h v' w' ?_ ⟨h3, ?_⟩)
  · refine ownB_app (m := n) (by simp) ?_
    rw [zeroB_size, zeroB_cells] at h2
    simpa using h2
  · rcases h4 with e | e
    · exact .inl e
    · exact .inr ⟨_, e, Nat.le_refl _⟩
end Go.Proofs.YtjnggnhgambmkaaGreat
