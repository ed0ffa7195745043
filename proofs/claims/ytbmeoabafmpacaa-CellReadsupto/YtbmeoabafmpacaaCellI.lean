import Derived.Test.YtbmeoabafmpacaaCellH
set_option linter.unusedSimpArgs false
set_option linter.unusedVariables false
namespace Go.Proofs.Ytbmeoabafmpacaa
open Go.RowKit Go.Sort

theorem xor_top (a : Nat) (h : a < 18446744073709551616) : a ^^^ 9223372036854775808 = (a + 9223372036854775808) % 18446744073709551616 := by
  have e1 : (a ^^^ 9223372036854775808) / 2 ^ 63 = a / 2 ^ 63 ^^^ 9223372036854775808 / 2 ^ 63 := Nat.xor_div_two_pow
  have e2 : (a ^^^ 9223372036854775808) % 2 ^ 63 = a % 2 ^ 63 ^^^ 9223372036854775808 % 2 ^ 63 := Nat.xor_mod_two_pow
  have e3 : 9223372036854775808 / 2 ^ 63 = 1 := by decide
  have e4 : 9223372036854775808 % 2 ^ 63 = 0 := by decide
  rw [e3] at e1
  rw [e4, Nat.xor_zero] at e2
  have e5 : a / 2 ^ 63 = 0 ∨ a / 2 ^ 63 = 1 := by omega
  have e6 := Nat.div_add_mod (a ^^^ 9223372036854775808) (2 ^ 63)
  rcases e5 with e | e
  · rw [e] at e1
    have : (0 ^^^ 1 : Nat) = 1 := by decide
    omega
  · rw [e] at e1
    have : (1 ^^^ 1 : Nat) = 0 := by decide
    omega
theorem xor_int (x : Int) (h0 : 0 ≤ x) (h : x < 18446744073709551616) : bits BinOp.xor IntKind.u64 x 9223372036854775808 = (x + 9223372036854775808) % 18446744073709551616 := by
  obtain ⟨a, rfl⟩ := Int.eq_ofNat_of_zero_le h0
  have := bits_xor_u64_nat a 9223372036854775808 (by omega) (by omega)
  rw [show (9223372036854775808 : Int) = ((9223372036854775808 : Nat) : Int) from rfl, this, xor_top a (by omega)]
  omega
theorem keyU_eq (n : Int) (h : In64 n) : keyU n = n + 9223372036854775808 := by
  unfold keyU In64 at *
  rw [IntKind.wrap_u64, xor_int _ (by omega) (by omega)]
  omega

theorem or_step (U c : Int) (h0 : 0 ≤ U) (h1 : U < 72057594037927936) (c0 : 0 ≤ c) (c1 : c < 256) : bits BinOp.or IntKind.u64 (IntKind.u64.wrap (U * 256)) (IntKind.u64.wrap c) = U * 256 + c := by
  obtain ⟨a, rfl⟩ := Int.eq_ofNat_of_zero_le h0
  obtain ⟨b, rfl⟩ := Int.eq_ofNat_of_zero_le c0
  rw [IntKind.wrap_u64, IntKind.wrap_u64, Int.emod_eq_of_lt (by omega) (by omega), Int.emod_eq_of_lt (by omega) (by omega)]
  have h := bits_or_u64_nat (2 ^ 8 * a) b (by omega) (by omega)
  rw [← Nat.two_pow_add_eq_or_of_lt (by omega) a] at h
  rw [show (a : Int) * 256 = ((2 ^ 8 * a : Nat) : Int) by omega, h]
  omega

/-- The number that the bytes spell, the highest first. -/
def hor (l : List UInt8) : Int := l.foldl (fun U c => U * 256 + (c.toNat : Int)) 0
theorem hor_snoc (l : List UInt8) (c : UInt8) : hor (l ++ [c]) = hor l * 256 + (c.toNat : Int) := by simp [hor]
theorem hor_nonneg (l : List UInt8) : 0 ≤ hor l := by
  suffices ∀ (l : List UInt8) (U : Int), 0 ≤ U → 0 ≤ l.foldl (fun U c => U * 256 + (c.toNat : Int)) U from this l 0 (by omega)
  intro l
  induction l with
  | nil => intro U h; exact h
  | cons c l ih => intro U h; exact ih _ (show 0 ≤ U * 256 + (c.toNat : Int) by omega)
theorem hor_lt : ∀ (n : Nat) (l : List UInt8), l.length = n → hor l < 256 ^ n := by
  intro n
  induction n with
  | zero => intro l h; have : l = [] := List.eq_nil_of_length_eq_zero h; subst this; decide
  | succ n ih =>
    intro l h
    obtain ⟨m, c, rfl⟩ : ∃ m c, l = m ++ [c] := ⟨l.dropLast, l.getLast (by intro e; simp [e] at h), (List.dropLast_concat_getLast _).symm⟩
    rw [hor_snoc]
    have h1 := ih m (by simpa using h)
    have h2 := UInt8.toNat_lt c
    rw [Int.pow_succ]
    omega
/-- The bytes 1 to k of a text. -/
def midB (s : ByteArray) (k : Nat) : List UInt8 := (s.data.toList.drop 1).take k
theorem mid_succ (s : ByteArray) (k : Nat) (h : 1 + k < s.size) : midB s (k + 1) = midB s k ++ [s[1 + k]] := by
  unfold midB
  rw [List.take_succ_eq_append_getElem (by simp; omega)]
  simp
  simp only [Nat.add_comm k 1]
  rfl
theorem mid_len (s : ByteArray) (k : Nat) (h : 1 + k ≤ s.size) : (midB s k).length = k := by simp [midB]; omega

set_option maxHeartbeats 1000000 in
theorem firstnum_any (s : ByteArray) (w : World) (h9 : 9 ≤ s.size) (hs : s.size ≤ 140737488300000) :
    Calls Try.prog 77 #[.string s] w fun e w' => e = .returned (.tuple #[(Val.num (hor (midB s 8) - 9223372036854775808)).v, .int .i64 9]) ∧ Below w.heap.size w w' := by
  have hs' : (s.size : Int) ≤ 140737488300000 := by omega
  have h9' : ¬ (s.size : Int) < 9 := by omega
  go_enter Try.func77, Try.ntmps77
  go_wp2_with fail
  go_loop [4, 10] (fun u i => ∃ k : Nat, k ≤ 8 ∧ i = .int .i64 k ∧ u = .int .u64 (hor (midB s k))) (fun _ i => 8 - (intOf i).toNat)
  case atStart => exact ⟨0, Nat.zero_le _, rfl, rfl⟩
  case round =>
    obtain ⟨k, hk, rfl, rfl⟩ := hrel
    by_cases h8 : k < 8
    · have i1 : (k : Int) < 8 := by omega
      have i2 : 1 + (k : Int) < (s.size : Int) := by omega
      have i3 : 1 + k < s.size := by omega
      have HE : Hid (bits BinOp.or IntKind.u64 (IntKind.u64.wrap (hor (midB s k) * 256)) (IntKind.u64.wrap (s[1 + k].toNat : Int)) = hor (midB s (k + 1))) := by
        show _ = _
        have h1 := hor_lt k (midB s k) (mid_len s k (by omega))
        have h2 : (256 : Int) ^ k ≤ 256 ^ 7 := by
          rcases (show k = 0 ∨ k = 1 ∨ k = 2 ∨ k = 3 ∨ k = 4 ∨ k = 5 ∨ k = 6 ∨ k = 7 by omega) with rfl | rfl | rfl | rfl | rfl | rfl | rfl | rfl <;> decide
        have h3 := UInt8.toNat_lt s[1 + k]
        rw [or_step _ _ (hor_nonneg _) (by omega) (by omega) (by omega), mid_succ s k i3, hor_snoc]
      go_wp2
      go_round
      case rel => exact ⟨k + 1, by omega, by go_num, congrArg (Value.int IntKind.u64) (unhide HE)⟩
      case measure => simp [intOf]; omega
    · have hk8 : k = 8 := by omega
      subst hk8
      have HE : Hid (wrap64 (bits BinOp.xor IntKind.u64 (hor (midB s 8)) 9223372036854775808) = hor (midB s 8) - 9223372036854775808) := by
        show _ = _
        have h1 := hor_lt 8 (midB s 8) (mid_len s 8 (by omega))
        have h2 := hor_nonneg (midB s 8)
        rw [xor_int _ h2 (by omega)]
        unfold wrap64
        omega
      have HN := hide (number_any (hor (midB s 8) - 9223372036854775808))
      go_wp2_with (go_at_call 38; rw [unhide HE]; refine (unhide HN _).mono ?_; rintro e w1 ⟨rfl, hb1⟩; obtain ⟨hc1, hf1⟩ := bcell hb1; rw [Val.open_])
      refine bodyPost_ret (v := .tuple #[(Val.num (hor (midB s 8) - 9223372036854775808)).v, .int .i64 9]) (by simp [results, Try.results77, go_sem, Val.v, hc1, hf1]) rfl ⟨rfl, ?_⟩
      exact ((((((Below.refl _ _).alloc (Nat.le_refl _) _).trans (hb1.mono (by simp))).setCell (by simp) _).setCell (by simp) _).setCell (by simp) _)

set_option maxHeartbeats 1000000 in
theorem firstnum_no (s : ByteArray) (w : World) (h9 : s.size < 9) :
    Calls Try.prog 77 #[.string s] w fun e w' => e = .returned (.tuple #[Val.null.v, .int .i64 0]) ∧ Below w.heap.size w w' := by
  have h9' : (s.size : Int) < 9 := by omega
  go_enter Try.func77, Try.ntmps77
  go_wp2
  exact bodyPost_ret (v := .tuple #[Val.null.v, .int .i64 0]) (by simp [results, Try.results77, go_sem, Val.v, Val.null]) rfl ⟨rfl, by repeat (first | exact Below.refl _ _ | refine Below.alloc ?_ (by simp <;> omega) _ | refine Below.setCell ?_ (by simp <;> omega) _)⟩

end Go.Proofs.Ytbmeoabafmpacaa
