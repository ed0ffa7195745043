import Derived.Test.YtdinkopfdnjpmaaLongD
set_option linter.unusedSimpArgs false
set_option linter.unusedVariables false
namespace Go.Proofs.Ytdinkopfdnjpmaa
open Go.RowKit Go.Sort

theorem take_dig {ds : List Int} {n : Nat} (h : n < ds.length) : ds.take (n + 1) = ds.take n ++ [dig ds n] := by
  rw [List.take_succ_eq_append_getElem h, dig_some (List.getElem?_eq_getElem h)]
theorem val_take {ds : List Int} {n : Nat} (h : n < ds.length) : valD (ds.take (n + 1)) = valD (ds.take n) + 65536 ^ n * dig ds n := by
  rw [take_dig h, valD_snoc, List.length_take, Nat.min_eq_left (by omega)]
theorem val_trim (ds : List Int) : ∀ n, n ≤ ds.length → valD (ds.take (trimN ds n)) = valD (ds.take n)
  | 0, _ => rfl
  | n + 1, h => by
    rw [trimN]
    split
    · rename_i h0
      rw [val_trim ds n (by omega), val_take (by omega), h0]
      simp
    · rfl
theorem dig_take {ds : List Int} {n k : Nat} (h : k < n) : dig (ds.take n) k = dig ds k := by
  unfold dig
  rw [List.getElem?_take_of_lt h]
theorem trim_take (ds : List Int) (m : Nat) : ∀ n, n ≤ m → trimN (ds.take m) n = trimN ds n
  | 0, _ => rfl
  | n + 1, h => by
    rw [trimN, trimN, dig_take (by omega), trim_take ds m n (by omega)]
theorem trim_trim (ds : List Int) : ∀ n, trimN ds (trimN ds n) = trimN ds n
  | 0 => rfl
  | n + 1 => by
    rw [trimN]
    split
    · exact trim_trim ds n
    · rename_i h0
      rw [trimN, if_neg h0]
/-- What 'trimmed' leaves: the same number, no zeros at the end. -/
theorem trim_good (ds : List Int) (hd : Digs ds) : ∃ es, ds.take (trimN ds ds.length) = es ∧ es.length = trimN ds ds.length ∧ Digs es ∧ valD es = valD ds ∧ trimN es es.length = es.length := by
  have hl := trimN_le ds ds.length
  have hlen : (ds.take (trimN ds ds.length)).length = trimN ds ds.length := by rw [List.length_take]; omega
  refine ⟨_, rfl, hlen, fun x hx => hd x (List.mem_of_mem_take hx), ?_, ?_⟩
  · rw [val_trim ds _ (Nat.le_refl _), List.take_length]
  · rw [hlen, trim_take _ _ _ (Nat.le_refl _), trim_trim]

theorem dig_bd {ds : List Int} (hd : Digs ds) (i : Nat) : 0 ≤ dig ds i ∧ dig ds i < 65536 := by
  unfold dig
  cases h : ds[i]? with
  | none => simp
  | some x => exact hd.at h
theorem digs_take {ds : List Int} (hd : Digs ds) (n : Nat) : Digs (ds.take n) := fun x hx => hd x (List.mem_of_mem_take hx)
theorem pow_pos' (n : Nat) : (0 : Int) < 65536 ^ n := Int.pow_pos (by omega)

/-- No zeros at the end: at least the place's worth. -/
theorem val_ge {ds : List Int} (hd : Digs ds) {n : Nat} (hn : ds.length = n + 1) (ht : trimN ds ds.length = ds.length) : 65536 ^ n ≤ valD ds := by
  have h0 : ¬ dig ds n = 0 := by
    intro h
    rw [hn, trimN, if_pos h] at ht
    have := trimN_le ds n
    omega
  have h1 := dig_bd hd n
  have h2 := val_take (ds := ds) (n := n) (by omega)
  rw [show n + 1 = ds.length by omega, List.take_length] at h2
  have h3 := valD_nonneg (digs_take hd n)
  have h4 : (65536 : Int) ^ n * 1 ≤ 65536 ^ n * dig ds n := Int.mul_le_mul_of_nonneg_left (by omega) (Int.le_of_lt (pow_pos' n))
  omega
theorem val_zero {ds : List Int} (hd : Digs ds) (ht : trimN ds ds.length = ds.length) (h : valD ds = 0) : ds = [] := by
  cases hl : ds.length with
  | zero => exact List.eq_nil_of_length_eq_zero hl
  | succ n =>
    have := val_ge hd hl ht
    have := pow_pos' n
    omega
theorem pow_mono {m n : Nat} (h : m ≤ n) : (65536 : Int) ^ m ≤ 65536 ^ n := by
  induction h with
  | refl => exact Int.le_refl _
  | step _ ih => rw [Int.pow_succ]; have := pow_pos' m; omega
theorem val_len {ds es : List Int} (hd : Digs ds) (he : Digs es) (ht : trimN es es.length = es.length) (h : ds.length < es.length) : valD ds < valD es := by
  obtain ⟨n, hn⟩ : ∃ n, es.length = n + 1 := ⟨es.length - 1, by omega⟩
  have h1 := val_ge he hn ht
  have h2 := valD_lt hd
  have h3 := pow_mono (m := ds.length) (n := n) (by omega)
  omega
theorem cmpI_lt {a b : Int} (h : a < b) : cmpI a b = -1 := by unfold cmpI; rw [if_pos h]
theorem cmpI_gt {a b : Int} (h : b < a) : cmpI a b = 1 := by unfold cmpI; rw [if_neg (by omega), if_pos h]
theorem sizeN_val {ds es : List Int} (hd : Digs ds) (he : Digs es) : ∀ n, n ≤ ds.length → n ≤ es.length → sizeN ds es n = cmpI (valD (ds.take n)) (valD (es.take n))
  | 0, _, _ => by simp [sizeN, cmpI]
  | n + 1, h1, h2 => by
    rw [sizeN, val_take (by omega), val_take (by omega)]
    split
    · rename_i h
      rw [sizeN_val hd he n (by omega) (by omega), h]
      unfold cmpI
      congr 1
      · simp
      · congr 1; simp
    · rename_i h
      have a1 := valD_lt (digs_take hd n)
      have a2 := valD_lt (digs_take he n)
      have a3 := valD_nonneg (digs_take hd n)
      have a4 := valD_nonneg (digs_take he n)
      rw [List.length_take, Nat.min_eq_left (by omega)] at a1 a2
      by_cases hx : dig ds n < dig es n
      · have := Int.mul_le_mul_of_nonneg_left (show dig ds n + 1 ≤ dig es n by omega) (Int.le_of_lt (pow_pos' n))
        rw [Int.mul_add, Int.mul_one] at this
        rw [cmpI_lt (by omega)]
        simp [rcmpI, hx]
      · have := Int.mul_le_mul_of_nonneg_left (show dig es n + 1 ≤ dig ds n by omega) (Int.le_of_lt (pow_pos' n))
        rw [Int.mul_add, Int.mul_one] at this
        rw [cmpI_gt (by omega)]
        simp [rcmpI, hx]
theorem sizeV_val {ds es : List Int} (hd : Digs ds) (he : Digs es) (ht : trimN ds ds.length = ds.length) (ht2 : trimN es es.length = es.length) : sizeV ds es = cmpI (valD ds) (valD es) := by
  unfold sizeV
  split
  · rename_i h
    rw [sizeN_val hd he _ (Nat.le_refl _) (by omega), List.take_length, h, List.take_length]
  · rename_i h
    by_cases hx : ds.length < es.length
    · have := val_len hd he ht2 hx
      rw [cmpI_lt this]
      simp [rcmpI, hx]
    · have := val_len he hd ht (by omega)
      rw [cmpI_gt this]
      simp [rcmpI, hx]
end Go.Proofs.Ytdinkopfdnjpmaa
