import Derived.Test.YtbmeoabafmpacaaCellK
set_option linter.unusedSimpArgs false
set_option linter.unusedVariables false
namespace Go.Proofs.Ytbmeoabafmpacaa
open Go.RowKit

def cmpZ : List Int → List Int → Int
  | [], [] => 0
  | [], _ :: _ => -1
  | _ :: _, [] => 1
  | a :: x, b :: y => if a < b then -1 else if b < a then 1 else cmpZ x y

def Byt (z : Int) : Prop := 0 ≤ z ∧ z < 256
theorem ofI_lt {a b : Int} (ha : Byt a) (hb : Byt b) : (ofI a < ofI b) ↔ a < b := by
  unfold Byt at *
  rw [UInt8.lt_iff_toNat_lt]
  simp [ofI]
  omega
theorem cmpZ_bytes : ∀ (x y : List Int), (∀ z ∈ x, Byt z) → (∀ z ∈ y, Byt z) → Lib.compareBytes (x.map ofI) (y.map ofI) = cmpZ x y
  | [], [], _, _ => rfl
  | [], _ :: _, _, _ => rfl
  | _ :: _, [], _, _ => rfl
  | a :: x, b :: y, hx, hy => by
    have ha := hx a (by simp)
    have hb := hy b (by simp)
    have ih := cmpZ_bytes x y (fun z hz => hx z (by simp [hz])) (fun z hz => hy z (by simp [hz]))
    simp only [List.map_cons, Lib.compareBytes, cmpZ, ofI_lt ha hb, ofI_lt hb ha, ih]

theorem be_val (U : Int) : be U 0 = U / 72057594037927936 % 256 ∧ be U 1 = U / 281474976710656 % 256 ∧ be U 2 = U / 1099511627776 % 256 ∧ be U 3 = U / 4294967296 % 256 ∧ be U 4 = U / 16777216 % 256 ∧ be U 5 = U / 65536 % 256 ∧ be U 6 = U / 256 % 256 ∧ be U 7 = U % 256 := by
  refine ⟨?_, ?_, ?_, ?_, ?_, ?_, ?_, ?_⟩ <;> simp [be]
theorem be_sum (U : Int) (h0 : 0 ≤ U) (h : U < 18446744073709551616) : U = be U 0 * 72057594037927936 + be U 1 * 281474976710656 + be U 2 * 1099511627776 + be U 3 * 4294967296 + be U 4 * 16777216 + be U 5 * 65536 + be U 6 * 256 + be U 7 := by
  obtain ⟨e0, e1, e2, e3, e4, e5, e6, e7⟩ := be_val U
  omega
theorem be_byt (U : Int) (k : Nat) : Byt (be U k) := by unfold Byt be; omega
theorem be8_eq (U : Int) : be8 U 8 = [be U 0, be U 1, be U 2, be U 3, be U 4, be U 5, be U 6, be U 7] := rfl

theorem cmp_num (U V : Int) (h0 : 0 ≤ U) (h1 : U < 18446744073709551616) (g0 : 0 ≤ V) (g1 : V < 18446744073709551616) (r r' : List Int) :
    cmpZ (be8 U 8 ++ r) (be8 V 8 ++ r') = if cmpI U V = 0 then cmpZ r r' else cmpI U V := by
  have eU := be_sum U h0 h1
  have eV := be_sum V g0 g1
  rw [be8_eq, be8_eq]
  have u0 := be_byt U 0
  have u1 := be_byt U 1
  have u2 := be_byt U 2
  have u3 := be_byt U 3
  have u4 := be_byt U 4
  have u5 := be_byt U 5
  have u6 := be_byt U 6
  have u7 := be_byt U 7
  have v0 := be_byt V 0
  have v1 := be_byt V 1
  have v2 := be_byt V 2
  have v3 := be_byt V 3
  have v4 := be_byt V 4
  have v5 := be_byt V 5
  have v6 := be_byt V 6
  have v7 := be_byt V 7
  generalize be U 0 = a0 at *
  generalize be U 1 = a1 at *
  generalize be U 2 = a2 at *
  generalize be U 3 = a3 at *
  generalize be U 4 = a4 at *
  generalize be U 5 = a5 at *
  generalize be U 6 = a6 at *
  generalize be U 7 = a7 at *
  generalize be V 0 = b0 at *
  generalize be V 1 = b1 at *
  generalize be V 2 = b2 at *
  generalize be V 3 = b3 at *
  generalize be V 4 = b4 at *
  generalize be V 5 = b5 at *
  generalize be V 6 = b6 at *
  generalize be V 7 = b7 at *
  unfold Byt at *
  have lt : U < V → (if cmpI U V = 0 then cmpZ r r' else cmpI U V) = -1 := by intro h; simp [cmpI, h]
  have gt : V < U → (if cmpI U V = 0 then cmpZ r r' else cmpI U V) = 1 := by
    intro h
    have : ¬ U < V := by omega
    simp [cmpI, h, this]
  have eq : U = V → (if cmpI U V = 0 then cmpZ r r' else cmpI U V) = cmpZ r r' := by intro h; simp [h, cmpI_self]
  simp only [List.cons_append, List.nil_append, cmpZ]
  by_cases p0 : a0 < b0
  · rw [if_pos p0, lt (by omega)]
  rw [if_neg p0]
  by_cases q0 : b0 < a0
  · rw [if_pos q0, gt (by omega)]
  rw [if_neg q0]
  by_cases p1 : a1 < b1
  · rw [if_pos p1, lt (by omega)]
  rw [if_neg p1]
  by_cases q1 : b1 < a1
  · rw [if_pos q1, gt (by omega)]
  rw [if_neg q1]
  by_cases p2 : a2 < b2
  · rw [if_pos p2, lt (by omega)]
  rw [if_neg p2]
  by_cases q2 : b2 < a2
  · rw [if_pos q2, gt (by omega)]
  rw [if_neg q2]
  by_cases p3 : a3 < b3
  · rw [if_pos p3, lt (by omega)]
  rw [if_neg p3]
  by_cases q3 : b3 < a3
  · rw [if_pos q3, gt (by omega)]
  rw [if_neg q3]
  by_cases p4 : a4 < b4
  · rw [if_pos p4, lt (by omega)]
  rw [if_neg p4]
  by_cases q4 : b4 < a4
  · rw [if_pos q4, gt (by omega)]
  rw [if_neg q4]
  by_cases p5 : a5 < b5
  · rw [if_pos p5, lt (by omega)]
  rw [if_neg p5]
  by_cases q5 : b5 < a5
  · rw [if_pos q5, gt (by omega)]
  rw [if_neg q5]
  by_cases p6 : a6 < b6
  · rw [if_pos p6, lt (by omega)]
  rw [if_neg p6]
  by_cases q6 : b6 < a6
  · rw [if_pos q6, gt (by omega)]
  rw [if_neg q6]
  by_cases p7 : a7 < b7
  · rw [if_pos p7, lt (by omega)]
  rw [if_neg p7]
  by_cases q7 : b7 < a7
  · rw [if_pos q7, gt (by omega)]
  rw [if_neg q7, eq (by omega)]

theorem cmp_text : ∀ (s t : List UInt8) (r r' : List Int), cmpZ (encT s ++ 0 :: 1 :: r) (encT t ++ 0 :: 1 :: r') = if Lib.compareBytes s t = 0 then cmpZ r r' else Lib.compareBytes s t
  | [], [], r, r' => by simp [encT, cmpZ, Lib.compareBytes]
  | [], d :: t, r, r' => by
    by_cases hd : d.toNat = 0
    · simp [encT, hd, cmpZ, Lib.compareBytes]
    · have : (0 : Int) < (d.toNat : Int) := by omega
      simp [encT, hd, cmpZ, Lib.compareBytes, this]
  | c :: s, [], r, r' => by
    by_cases hc : c.toNat = 0
    · simp [encT, hc, cmpZ, Lib.compareBytes]
    · have h1 : (0 : Int) < (c.toNat : Int) := by omega
      have h2 : ¬ (c.toNat : Int) < 0 := by omega
      simp [encT, hc, cmpZ, Lib.compareBytes, h1, h2]
  | c :: s, d :: t, r, r' => by
    have ih := cmp_text s t r r'
    by_cases h1 : c < d
    · have h1' : (c.toNat : Int) < (d.toNat : Int) := by rw [UInt8.lt_iff_toNat_lt] at h1; omega
      by_cases hc : c.toNat = 0 <;> by_cases hd : d.toNat = 0 <;> simp [encT, hc, hd, cmpZ, Lib.compareBytes, h1] <;> omega
    · by_cases h2 : d < c
      · have h2' : (d.toNat : Int) < (c.toNat : Int) := by rw [UInt8.lt_iff_toNat_lt] at h2; omega
        have h1' : ¬ (c.toNat : Int) < (d.toNat : Int) := by omega
        by_cases hc : c.toNat = 0 <;> by_cases hd : d.toNat = 0 <;> simp [encT, hc, hd, cmpZ, Lib.compareBytes, h1, h2] <;> omega
      · have e : c = d := UInt8.le_antisymm (UInt8.not_lt.1 h2) (UInt8.not_lt.1 h1)
        subst e
        rw [show Lib.compareBytes (c :: s) (c :: t) = Lib.compareBytes s t by simp [Lib.compareBytes, h1]]
        rw [← ih]
        by_cases hc : c.toNat = 0 <;> simp [encT, hc, cmpZ]


theorem kinds (x : Val) : (x.k = 1 ∧ cleanV x = .num x.n ∧ encV x = 2 :: be8 (keyU x.n) 8) ∨ (x.k = 2 ∧ cleanV x = .str x.s ∧ encV x = 3 :: (encT x.s.data.toList ++ [0, 1])) ∨ (cleanV x = .null ∧ encV x = [1]) := by
  by_cases h1 : x.k = 1
  · exact .inl ⟨h1, by simp [cleanV, h1], by simp [encV, h1]⟩
  · by_cases h2 : x.k = 2
    · exact .inr (.inl ⟨h2, by simp [cleanV, h2], by simp [encV, h2]⟩)
    · exact .inr (.inr ⟨by simp [cleanV, h1, h2], by simp [encV, h1, h2]⟩)

theorem cmpI_shift (a b c : Int) : cmpI (a + c) (b + c) = cmpI a b := by
  unfold cmpI
  simp only [Int.add_lt_add_iff_right]

theorem cmp_val (x y : Val) (hx : In64 x.n) (hy : In64 y.n) (r r' : List Int) : cmpZ (encV x ++ r) (encV y ++ r') = if ordV x y = 0 then cmpZ r r' else ordV x y := by
  unfold ordV
  rcases kinds x with ⟨_, cx, ex⟩ | ⟨_, cx, ex⟩ | ⟨cx, ex⟩ <;> rcases kinds y with ⟨_, cy, ey⟩ | ⟨_, cy, ey⟩ | ⟨cy, ey⟩ <;> rw [cx, cy, ex, ey] <;> simp only [Val.num, Val.str, Val.null, cmpI_self, List.cons_append, cmpZ]
  · rw [cmpB_nil, orI_last]
    have eU := keyU_eq x.n hx
    have eV := keyU_eq y.n hy
    unfold In64 at hx hy
    have e : cmpI x.n y.n = cmpI (keyU x.n) (keyU y.n) := by rw [eU, eV, cmpI_shift]
    rw [e]
    simp only [Int.lt_irrefl, if_false]
    exact cmp_num _ _ (by omega) (by omega) (by omega) (by omega) r r'
  · simp [cmpI, orI]
  · simp [cmpI, orI]
  · simp [cmpI, orI]
  · rw [orI_third]
    simp only [Int.lt_irrefl, if_false, List.append_assoc, List.cons_append, List.nil_append]
    exact cmp_text _ _ r r'
  · simp [cmpI, orI]
  · simp [cmpI, orI]
  · simp [cmpI, orI]
  · rw [cmpB_nil]
    simp [orI]

theorem cmp_rows : ∀ (xs ys : List Val), (∀ x ∈ xs, In64 x.n) → (∀ y ∈ ys, In64 y.n) → cmpZ (keyL xs) (keyL ys) = rowsV xs ys
  | [], [], _, _ => rfl
  | [], y :: ys, _, _ => by
    rcases kinds y with ⟨_, _, ey⟩ | ⟨_, _, ey⟩ | ⟨_, ey⟩ <;> simp [keyL, ey, cmpZ, rowsV]
  | x :: xs, [], _, _ => by
    rcases kinds x with ⟨_, _, ex⟩ | ⟨_, _, ex⟩ | ⟨_, ex⟩ <;> simp [keyL, ex, cmpZ, rowsV]
  | x :: xs, y :: ys, hx, hy => by
    have ih := cmp_rows xs ys (fun z hz => hx z (by simp [hz])) (fun z hz => hy z (by simp [hz]))
    show cmpZ (encV x ++ keyL xs) (encV y ++ keyL ys) = _
    rw [cmp_val x y (hx x (by simp)) (hy y (by simp)), ih, rowsV]

theorem encT_byt (l : List UInt8) : ∀ z ∈ encT l, Byt z := by
  induction l with
  | nil => intro z hz; simp [encT] at hz
  | cons c l ih =>
    intro z hz
    have hc := UInt8.toNat_lt c
    simp only [encT, List.mem_cons] at hz
    rcases hz with rfl | hz
    · unfold Byt; omega
    · split at hz
      · rcases List.mem_cons.1 hz with rfl | hz
        · unfold Byt; omega
        · exact ih z hz
      · exact ih z hz
theorem encV_byt (x : Val) : ∀ z ∈ encV x, Byt z := by
  intro z hz
  rcases kinds x with ⟨_, _, ex⟩ | ⟨_, _, ex⟩ | ⟨_, ex⟩ <;> rw [ex] at hz
  · rcases List.mem_cons.1 hz with rfl | hz
    · unfold Byt; omega
    · obtain ⟨k, _, rfl⟩ := List.mem_map.1 hz
      exact be_byt _ k
  · rcases List.mem_cons.1 hz with rfl | hz
    · unfold Byt; omega
    · rcases List.mem_append.1 hz with hz | hz
      · exact encT_byt _ z hz
      · simp at hz; unfold Byt; omega
  · simp at hz; unfold Byt; omega
theorem keyL_byt (xs : List Val) : ∀ z ∈ keyL xs, Byt z := by
  intro z hz
  obtain ⟨x, _, hx⟩ := List.mem_flatMap.1 hz
  exact encV_byt x z hx
theorem toB_list (zs : List Int) : (toB zs).data.toList = zs.map ofI := by rw [toB_eq]

/-- KEYS STAND AS THE ROWS DO. -/
theorem keys_order (xs ys : List Val) (hx : ∀ x ∈ xs, In64 x.n) (hy : ∀ y ∈ ys, In64 y.n) :
    rcmpI (Op.bytesLess (toB (keyL xs)).toList (toB (keyL ys)).toList) ((toB (keyL xs)).toList == (toB (keyL ys)).toList) = rowsV xs ys := by
  rw [← cmp_rows xs ys hx hy, ← cmpZ_bytes _ _ (keyL_byt xs) (keyL_byt ys), ← toB_list, ← toB_list, ← less_cmp, Lib.toList_data, Lib.toList_data, rcmpI]

theorem cmpI_anti (a b : Int) : cmpI a b = - cmpI b a := by
  unfold cmpI
  by_cases h : a < b
  · have : ¬ b < a := by omega
    simp [h, this]
  · by_cases h2 : b < a
    · simp [h, h2]
    · simp [h, h2]
theorem cb_anti : ∀ (s t : List UInt8), Lib.compareBytes s t = - Lib.compareBytes t s
  | [], [] => rfl
  | [], _ :: _ => rfl
  | _ :: _, [] => rfl
  | c :: s, d :: t => by
    have ih := cb_anti s t
    by_cases h : c < d
    · have : ¬ d < c := UInt8.not_lt.2 (UInt8.le_of_lt h)
      simp [Lib.compareBytes, h, this]
    · by_cases h2 : d < c
      · simp [Lib.compareBytes, h, h2]
      · simp [Lib.compareBytes, h, h2, ih]
theorem ord_anti (x y : Val) : ordV x y = - ordV y x := by
  unfold ordV cmpB
  rw [cmpI_anti (cleanV x).k, cmpI_anti (cleanV x).n, cb_anti (cleanV x).s.data.toList]
  unfold orI
  generalize cmpI (cleanV y).k (cleanV x).k = a
  generalize cmpI (cleanV y).n (cleanV x).n = b
  generalize Lib.compareBytes (cleanV y).s.data.toList (cleanV x).s.data.toList = c
  by_cases h : a = 0 <;> by_cases h2 : b = 0 <;> simp [h, h2]
theorem rows_anti : ∀ (xs ys : List Val), rowsV xs ys = - rowsV ys xs
  | [], [] => rfl
  | [], _ :: _ => rfl
  | _ :: _, [] => rfl
  | x :: xs, y :: ys => by
    have ih := rows_anti xs ys
    have e := ord_anti x y
    rw [rowsV, rowsV]
    by_cases h : ordV x y = 0
    · have h2 : ordV y x = 0 := by omega
      rw [if_pos h, if_pos h2, ih]
    · have h2 : ¬ ordV y x = 0 := by omega
      rw [if_neg h, if_neg h2, e]


theorem hor_be (U : Int) (h0 : 0 ≤ U) (h : U < 18446744073709551616) : hor ((be8 U 8).map ofI) = U := by
  have e := be_sum U h0 h
  have t : ∀ k, ((ofI (be U k)).toNat : Int) = be U k := by
    intro k
    have := be_byt U k
    unfold Byt at this
    simp [ofI]
    omega
  rw [be8_eq]
  simp only [hor, List.map_cons, List.map_nil, List.foldl_cons, List.foldl_nil, t]
  omega
theorem ofI_nat (c : UInt8) : ofI (c.toNat : Int) = c := by simp [ofI]
theorem firstT_enc : ∀ (l : List UInt8) (r : List UInt8), firstT ((encT l).map ofI ++ 0 :: 1 :: r) = some (l.map (fun c => (c.toNat : Int)), (encT l).length + 2)
  | [], r => rfl
  | c :: l, r => by
    have ih := firstT_enc l r
    by_cases hc : c.toNat = 0
    · have e : (encT (c :: l)).map ofI ++ 0 :: 1 :: r = c :: 255 :: ((encT l).map ofI ++ 0 :: 1 :: r) := by
        simp [encT, hc]
        exact ⟨by rw [← ofI_nat c, hc]; rfl, rfl⟩
      rw [e, firstT, if_pos hc, if_pos (by decide), ih]
      simp [addT, encT, hc]
      omega
    · have e : (encT (c :: l)).map ofI ++ 0 :: 1 :: r = c :: ((encT l).map ofI ++ 0 :: 1 :: r) := by
        simp [encT, hc, ofI_nat]
      have e2 : ∃ d t, (encT l).map ofI ++ 0 :: 1 :: r = d :: t := by
        cases (encT l).map ofI with
        | nil => exact ⟨0, _, rfl⟩
        | cons d t => exact ⟨d, _, rfl⟩
      obtain ⟨d, t, e3⟩ := e2
      rw [e, e3, firstT, if_neg hc, ← e3, ih]
      simp [addT, encT, hc]
      omega
theorem toB_bytes (s : ByteArray) : toB (s.data.toList.map (fun c => (c.toNat : Int))) = s := by
  apply WideShapes.bytes_inj
  rw [toB_list, List.map_map]
  have : (ofI ∘ fun c : UInt8 => (c.toNat : Int)) = id := by funext c; exact ofI_nat c
  rw [this, List.map_id]
theorem dropB_toB (zs : List Int) (k : Nat) : dropB (toB zs) k = (zs.drop k).map ofI := by
  unfold dropB
  rw [toB_list, List.map_drop]
theorem toB_extract (a b : List Int) : (toB (a ++ b)).extract a.length (toB (a ++ b)).size = toB b := by
  apply WideShapes.bytes_inj
  rw [Lib.extract_data, toB_list, toB_list, toB_size]
  simp
  exact List.take_of_length_le (by simp)

theorem firstV_enc (x : Val) (hx : In64 x.n) (r : List Int) : firstV (toB (encV x ++ r)) = some (cleanV x, (encV x).length) := by
  have hpos : 0 < (toB (encV x ++ r)).size := by
    rw [toB_size]
    rcases kinds x with ⟨_, _, ex⟩ | ⟨_, _, ex⟩ | ⟨_, ex⟩ <;> simp [ex]
  unfold firstV
  rw [dropB_toB]
  rcases kinds x with ⟨_, cx, ex⟩ | ⟨_, cx, ex⟩ | ⟨cx, ex⟩
  · rw [ex, cx]
    have eU := keyU_eq x.n hx
    unfold In64 at hx
    have hm : midB (toB (2 :: be8 (keyU x.n) 8 ++ r)) 8 = (be8 (keyU x.n) 8).map ofI := by
      unfold midB
      rw [toB_list]
      simp [be8_eq]
    have h9 : 9 ≤ (toB (2 :: be8 (keyU x.n) 8 ++ r)).size := by rw [toB_size]; simp [be8_len]
    simp only [List.cons_append, List.drop_zero, List.map_cons] at *
    rw [if_neg (by decide), if_pos (by decide), if_pos h9, hm, hor_be _ (by omega) (by omega), eU]
    simp [be8_len]
  · rw [ex, cx]
    have hd : dropB (toB (3 :: (encT x.s.data.toList ++ [0, 1]) ++ r)) 1 = (encT x.s.data.toList).map ofI ++ 0 :: 1 :: r.map ofI := by
      rw [dropB_toB]
      simp
      exact ⟨rfl, rfl⟩
    simp only [List.cons_append, List.drop_zero, List.map_cons] at *
    rw [if_neg (by decide), if_neg (by decide), if_pos (by decide), hd, firstT_enc]
    simp [textV, toB_bytes]
  · rw [ex, cx]
    simp only [List.cons_append, List.drop_zero, List.map_cons]
    rw [if_pos (by decide)]
    simp

/-- KEYS ARE READ BACK. -/
theorem decode_key : ∀ (xs : List Val), (∀ x ∈ xs, In64 x.n) → decode (toB (keyL xs)) = some (xs.map cleanV)
  | [], _ => decode_nil _ (by rw [toB_size]; rfl)
  | x :: xs, hx => by
    have ih := decode_key xs (fun z hz => hx z (by simp [hz]))
    have e : keyL (x :: xs) = encV x ++ keyL xs := by simp [keyL]
    rw [e, decode_some _ _ _ (firstV_enc x (hx x (by simp)) (keyL xs)), toB_extract, ih]
    simp

end Go.Proofs.Ytbmeoabafmpacaa
