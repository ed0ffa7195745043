import Derived.Test.YtbmeoabafmpacaaCellM
set_option linter.unusedSimpArgs false
set_option linter.unusedVariables false
namespace Go.Proofs.Ytbmeoabafmpacaa
open Go.RowKit

/-- A text as the reference reads it, up to a zero that no 255 follows. -/
def scanT : List UInt8 → Option (List UInt8)
  | [] => none
  | [c] => if c.toNat = 0 then some [] else none
  | c :: d :: r => if c.toNat = 0 then (if d.toNat = 255 then (scanT r).map (c :: ·) else some []) else (scanT (d :: r)).map (c :: ·)

/-- Does the text begin with these bytes? -/
def Pre (a : List Int) (l : List UInt8) : Prop := ∃ r, l = a.map ofI ++ r

theorem pre_cons (c : UInt8) (a : List Int) (l : List UInt8) : Pre ((c.toNat : Int) :: a) (c :: l) ↔ Pre a l := by
  unfold Pre
  constructor
  · rintro ⟨r, h⟩
    simp [ofI_nat] at h
    exact ⟨r, h⟩
  · rintro ⟨r, h⟩
    exact ⟨r, by rw [h]; simp [ofI_nat]⟩

/-- What the reference's scan, and its look at the key again, come to. -/
theorem scan_first : ∀ (N : Nat) (l : List UInt8), l.length ≤ N →
    (scanT l = none → firstT l = none) ∧ (∀ t, scanT l = some t → Pre (encT t ++ [0, 1]) l → firstT l = some (t.map (fun c => (c.toNat : Int)), (encT t).length + 2)) ∧ (∀ t, scanT l = some t → ¬ Pre (encT t ++ [0, 1]) l → firstT l = none) := by
  intro N
  induction N with
  | zero =>
    intro l hl
    have : l = [] := List.eq_nil_of_length_eq_zero (by omega)
    subst this
    exact ⟨fun _ => rfl, fun t h => by simp [scanT] at h, fun t h => by simp [scanT] at h⟩
  | succ N ih =>
    intro l hl
    match l, hl with
    | [], _ => exact ⟨fun _ => rfl, fun t h => by simp [scanT] at h, fun t h => by simp [scanT] at h⟩
    | [c], _ =>
      refine ⟨fun _ => rfl, fun t h hp => ?_, fun t h hp => rfl⟩
      exfalso
      obtain ⟨r, hr⟩ := hp
      have := congrArg List.length hr
      simp at this
      omega
    | c :: d :: r, hl =>
      simp only [List.length_cons] at hl
      by_cases hc : c.toNat = 0
      · by_cases hd : d.toNat = 255
        · obtain ⟨i1, i2, i3⟩ := ih r (by omega)
          have ec : c = 0 := by rw [← ofI_nat c, hc]; rfl
          have ed : d = 255 := by rw [← ofI_nat d, hd]; rfl
          have es : scanT (c :: d :: r) = (scanT r).map (c :: ·) := by rw [scanT, if_pos hc, if_pos hd]
          have ef : firstT (c :: d :: r) = addT [0] 2 (firstT r) := by rw [firstT, if_pos hc, if_pos hd]
          have ep : ∀ t, Pre (encT (c :: t) ++ [0, 1]) (c :: d :: r) ↔ Pre (encT t ++ [0, 1]) r := by
            intro t
            have e : encT (c :: t) ++ [0, 1] = (c.toNat : Int) :: (d.toNat : Int) :: (encT t ++ [0, 1]) := by simp [encT, hc, hd]
            rw [e, pre_cons, pre_cons]
          rw [es, ef]
          refine ⟨fun h => ?_, fun t h hp => ?_, fun t h hp => ?_⟩
          · rw [i1 (by simpa using h)]; rfl
          · obtain ⟨u, hu, rfl⟩ := Option.map_eq_some_iff.1 h
            rw [i2 u hu ((ep u).1 hp)]
            simp [addT, encT, hc]
            omega
          · obtain ⟨u, hu, rfl⟩ := Option.map_eq_some_iff.1 h
            rw [i3 u hu (fun h => hp ((ep u).2 h))]
            rfl
        · have es : scanT (c :: d :: r) = some [] := by rw [scanT, if_pos hc, if_neg hd]
          have ef : firstT (c :: d :: r) = if d.toNat = 1 then some ([], 2) else none := by rw [firstT, if_pos hc, if_neg hd]
          rw [es, ef]
          have ec : c = 0 := by rw [← ofI_nat c, hc]; rfl
          refine ⟨fun h => by simp at h, fun t h hp => ?_, fun t h hp => ?_⟩
          · simp at h; subst h
            obtain ⟨q, hq⟩ := hp
            simp [encT] at hq
            have : d = 1 := by rw [hq.2.1]; rfl
            subst this
            rfl
          · simp at h; subst h
            rw [if_neg]
            intro h1
            apply hp
            have ed : d = 1 := by rw [← ofI_nat d, h1]; rfl
            exact ⟨r, by rw [ec, ed]; rfl⟩
      · obtain ⟨i1, i2, i3⟩ := ih (d :: r) (by simp only [List.length_cons]; omega)
        have es : scanT (c :: d :: r) = (scanT (d :: r)).map (c :: ·) := by rw [scanT, if_neg hc]
        have ef : firstT (c :: d :: r) = addT [(c.toNat : Int)] 1 (firstT (d :: r)) := by rw [firstT, if_neg hc]
        have ep : ∀ t, Pre (encT (c :: t) ++ [0, 1]) (c :: d :: r) ↔ Pre (encT t ++ [0, 1]) (d :: r) := by
          intro t
          have e : encT (c :: t) ++ [0, 1] = (c.toNat : Int) :: (encT t ++ [0, 1]) := by simp [encT, hc]
          rw [e, pre_cons]
        rw [es, ef]
        refine ⟨fun h => ?_, fun t h hp => ?_, fun t h hp => ?_⟩
        · rw [i1 (by simpa using h)]; rfl
        · obtain ⟨u, hu, rfl⟩ := Option.map_eq_some_iff.1 h
          rw [i2 u hu ((ep u).1 hp)]
          simp [addT, encT, hc]
          omega
        · obtain ⟨u, hu, rfl⟩ := Option.map_eq_some_iff.1 h
          rw [i3 u hu (fun h => hp ((ep u).2 h))]
          rfl

/-- The value that the reference takes a key to begin with. -/
def cand (s : ByteArray) : Option Val :=
  match dropB s 0 with
  | [] => none
  | c :: _ => if c.toNat = 2 then (if 9 ≤ s.size then some (.num (hor (midB s 8) - 9223372036854775808)) else none)
    else if c.toNat = 3 then (scanT (dropB s 1)).map (fun t => Val.str (toB (t.map (fun c => (c.toNat : Int))))) else some .null
def PreV (x : Val) (s : ByteArray) : Prop := Pre (encV x) (dropB s 0)

theorem eight (l : List UInt8) (h : l.length = 8) : ∃ b0 b1 b2 b3 b4 b5 b6 b7, l = [b0, b1, b2, b3, b4, b5, b6, b7] := by
  match l, h with
  | [b0, b1, b2, b3, b4, b5, b6, b7], _ => exact ⟨b0, b1, b2, b3, b4, b5, b6, b7, rfl⟩
theorem dig0 (b0 b1 b2 b3 b4 b5 b6 b7 : Int) (h0 : Byt b0) (h1 : Byt b1) (h2 : Byt b2) (h3 : Byt b3) (h4 : Byt b4) (h5 : Byt b5) (h6 : Byt b6) (h7 : Byt b7) : (b0 * 72057594037927936 + b1 * 281474976710656 + b2 * 1099511627776 + b3 * 4294967296 + b4 * 16777216 + b5 * 65536 + b6 * 256 + b7) / 72057594037927936 % 256 = b0 := by
  unfold Byt at *
  omega
theorem dig1 (b0 b1 b2 b3 b4 b5 b6 b7 : Int) (h0 : Byt b0) (h1 : Byt b1) (h2 : Byt b2) (h3 : Byt b3) (h4 : Byt b4) (h5 : Byt b5) (h6 : Byt b6) (h7 : Byt b7) : (b0 * 72057594037927936 + b1 * 281474976710656 + b2 * 1099511627776 + b3 * 4294967296 + b4 * 16777216 + b5 * 65536 + b6 * 256 + b7) / 281474976710656 % 256 = b1 := by
  unfold Byt at *
  omega
theorem dig2 (b0 b1 b2 b3 b4 b5 b6 b7 : Int) (h0 : Byt b0) (h1 : Byt b1) (h2 : Byt b2) (h3 : Byt b3) (h4 : Byt b4) (h5 : Byt b5) (h6 : Byt b6) (h7 : Byt b7) : (b0 * 72057594037927936 + b1 * 281474976710656 + b2 * 1099511627776 + b3 * 4294967296 + b4 * 16777216 + b5 * 65536 + b6 * 256 + b7) / 1099511627776 % 256 = b2 := by
  unfold Byt at *
  omega
theorem dig3 (b0 b1 b2 b3 b4 b5 b6 b7 : Int) (h0 : Byt b0) (h1 : Byt b1) (h2 : Byt b2) (h3 : Byt b3) (h4 : Byt b4) (h5 : Byt b5) (h6 : Byt b6) (h7 : Byt b7) : (b0 * 72057594037927936 + b1 * 281474976710656 + b2 * 1099511627776 + b3 * 4294967296 + b4 * 16777216 + b5 * 65536 + b6 * 256 + b7) / 4294967296 % 256 = b3 := by
  unfold Byt at *
  omega
theorem dig4 (b0 b1 b2 b3 b4 b5 b6 b7 : Int) (h0 : Byt b0) (h1 : Byt b1) (h2 : Byt b2) (h3 : Byt b3) (h4 : Byt b4) (h5 : Byt b5) (h6 : Byt b6) (h7 : Byt b7) : (b0 * 72057594037927936 + b1 * 281474976710656 + b2 * 1099511627776 + b3 * 4294967296 + b4 * 16777216 + b5 * 65536 + b6 * 256 + b7) / 16777216 % 256 = b4 := by
  unfold Byt at *
  omega
theorem dig5 (b0 b1 b2 b3 b4 b5 b6 b7 : Int) (h0 : Byt b0) (h1 : Byt b1) (h2 : Byt b2) (h3 : Byt b3) (h4 : Byt b4) (h5 : Byt b5) (h6 : Byt b6) (h7 : Byt b7) : (b0 * 72057594037927936 + b1 * 281474976710656 + b2 * 1099511627776 + b3 * 4294967296 + b4 * 16777216 + b5 * 65536 + b6 * 256 + b7) / 65536 % 256 = b5 := by
  unfold Byt at *
  omega
theorem dig6 (b0 b1 b2 b3 b4 b5 b6 b7 : Int) (h0 : Byt b0) (h1 : Byt b1) (h2 : Byt b2) (h3 : Byt b3) (h4 : Byt b4) (h5 : Byt b5) (h6 : Byt b6) (h7 : Byt b7) : (b0 * 72057594037927936 + b1 * 281474976710656 + b2 * 1099511627776 + b3 * 4294967296 + b4 * 16777216 + b5 * 65536 + b6 * 256 + b7) / 256 % 256 = b6 := by
  unfold Byt at *
  omega
theorem dig7 (b0 b1 b2 b3 b4 b5 b6 b7 : Int) (h0 : Byt b0) (h1 : Byt b1) (h2 : Byt b2) (h3 : Byt b3) (h4 : Byt b4) (h5 : Byt b5) (h6 : Byt b6) (h7 : Byt b7) : (b0 * 72057594037927936 + b1 * 281474976710656 + b2 * 1099511627776 + b3 * 4294967296 + b4 * 16777216 + b5 * 65536 + b6 * 256 + b7) % 256 = b7 := by
  unfold Byt at *
  omega
set_option maxHeartbeats 1000000 in
theorem be_hor (l : List UInt8) (h : l.length = 8) : (be8 (hor l) 8).map ofI = l := by
  obtain ⟨b0, b1, b2, b3, b4, b5, b6, b7, rfl⟩ := eight l h
  have hb : ∀ c : UInt8, Byt (c.toNat : Int) := by intro c; have := UInt8.toNat_lt c; unfold Byt; omega
  have e : hor [b0, b1, b2, b3, b4, b5, b6, b7] = (b0.toNat : Int) * 72057594037927936 + (b1.toNat : Int) * 281474976710656 + (b2.toNat : Int) * 1099511627776 + (b3.toNat : Int) * 4294967296 + (b4.toNat : Int) * 16777216 + (b5.toNat : Int) * 65536 + (b6.toNat : Int) * 256 + (b7.toNat : Int) := by
    simp only [hor, List.foldl_cons, List.foldl_nil]
    omega
  obtain ⟨e0, e1, e2, e3, e4, e5, e6, e7⟩ := be_val (hor [b0, b1, b2, b3, b4, b5, b6, b7])
  rw [be8_eq, e0, e1, e2, e3, e4, e5, e6, e7, e]
  rw [dig0 _ _ _ _ _ _ _ _ (hb b0) (hb b1) (hb b2) (hb b3) (hb b4) (hb b5) (hb b6) (hb b7)]
  rw [dig1 _ _ _ _ _ _ _ _ (hb b0) (hb b1) (hb b2) (hb b3) (hb b4) (hb b5) (hb b6) (hb b7)]
  rw [dig2 _ _ _ _ _ _ _ _ (hb b0) (hb b1) (hb b2) (hb b3) (hb b4) (hb b5) (hb b6) (hb b7)]
  rw [dig3 _ _ _ _ _ _ _ _ (hb b0) (hb b1) (hb b2) (hb b3) (hb b4) (hb b5) (hb b6) (hb b7)]
  rw [dig4 _ _ _ _ _ _ _ _ (hb b0) (hb b1) (hb b2) (hb b3) (hb b4) (hb b5) (hb b6) (hb b7)]
  rw [dig5 _ _ _ _ _ _ _ _ (hb b0) (hb b1) (hb b2) (hb b3) (hb b4) (hb b5) (hb b6) (hb b7)]
  rw [dig6 _ _ _ _ _ _ _ _ (hb b0) (hb b1) (hb b2) (hb b3) (hb b4) (hb b5) (hb b6) (hb b7)]
  rw [dig7 _ _ _ _ _ _ _ _ (hb b0) (hb b1) (hb b2) (hb b3) (hb b4) (hb b5) (hb b6) (hb b7)]
  simp [ofI_nat]

theorem cand_first (s : ByteArray) (h0 : 0 < s.size) :
    (cand s = none → firstV s = none) ∧ (∀ x, cand s = some x → PreV x s → firstV s = some (x, (encV x).length)) ∧ (∀ x, cand s = some x → ¬ PreV x s → firstV s = none) := by
  have ec : cand s = if s[0].toNat = 2 then (if 9 ≤ s.size then some (.num (hor (midB s 8) - 9223372036854775808)) else none)
    else if s[0].toNat = 3 then (scanT (dropB s 1)).map (fun t => Val.str (toB (t.map (fun c => (c.toNat : Int))))) else some .null := by
    unfold cand; rw [drop_cons s 0 h0]
  have ed := drop_cons s 0 h0
  rw [ec, firstV_eq s h0]
  by_cases c2 : s[0].toNat = 2
  · have c1 : ¬ s[0].toNat = 1 := by omega
    rw [if_pos c2, if_neg c1, if_pos c2]
    by_cases h9 : 9 ≤ s.size
    · rw [if_pos h9, if_pos h9]
      have hl := mid_len s 8 (by omega)
      have hh := hor_lt 8 (midB s 8) hl
      have hn := hor_nonneg (midB s 8)
      have eU : keyU (hor (midB s 8) - 9223372036854775808) = hor (midB s 8) := by
        rw [keyU_eq _ (by unfold In64; omega)]; omega
      have ee : encV (.num (hor (midB s 8) - 9223372036854775808)) = 2 :: be8 (hor (midB s 8)) 8 := by
        rw [← eU]
        simp [encV, Val.num, eU]
      refine ⟨fun h => by simp at h, fun x h hp => ?_, fun x h hp => ?_⟩
      · simp at h; subst h
        rw [ee]; simp [be8_len]
      · simp at h; subst h
        exfalso
        apply hp
        unfold PreV
        rw [ee, ed]
        refine ⟨dropB s 9, ?_⟩
        simp only [List.map_cons, be_hor _ hl, List.cons_append]
        have e1 : s[0] = ofI 2 := by rw [← ofI_nat s[0], c2]; rfl
        rw [e1]
        congr 1
        unfold midB dropB
        have e2 : s.data.toList.drop 9 = (s.data.toList.drop 1).drop 8 := by rw [List.drop_drop]
        rw [e2]
        exact (List.take_append_drop 8 _).symm
    · rw [if_neg h9, if_neg h9]
      exact ⟨fun _ => rfl, fun x h => by simp at h, fun x h => by simp at h⟩
  · rw [if_neg c2, if_neg c2]
    by_cases c3 : s[0].toNat = 3
    · have c1 : ¬ s[0].toNat = 1 := by omega
      rw [if_pos c3, if_neg c1, if_pos c3]
      obtain ⟨i1, i2, i3⟩ := scan_first _ (dropB s 1) (Nat.le_refl _)
      have ee : ∀ t : List UInt8, encV (Val.str (toB (t.map (fun c => (c.toNat : Int))))) = 3 :: (encT t ++ [0, 1]) := by
        intro t
        have : (toB (t.map (fun c => (c.toNat : Int)))).data.toList = t := by
          rw [toB_list, List.map_map]
          have : (ofI ∘ fun c : UInt8 => (c.toNat : Int)) = id := by funext c; exact ofI_nat c
          rw [this, List.map_id]
        simp [encV, Val.str, this]
      have ep : ∀ t : List UInt8, PreV (Val.str (toB (t.map (fun c => (c.toNat : Int))))) s ↔ Pre (encT t ++ [0, 1]) (dropB s 1) := by
        intro t
        unfold PreV
        rw [ee, ed]
        have : (3 : Int) = (s[0].toNat : Int) := by omega
        rw [this, pre_cons]
      refine ⟨fun h => ?_, fun x h hp => ?_, fun x h hp => ?_⟩
      · rw [i1 (by simpa using h)]; rfl
      · obtain ⟨t, ht, rfl⟩ := Option.map_eq_some_iff.1 h
        rw [i2 t ht ((ep t).1 hp), ee]
        simp [textV]
      · obtain ⟨t, ht, rfl⟩ := Option.map_eq_some_iff.1 h
        rw [i3 t ht (fun h => hp ((ep t).2 h))]
        rfl
    · rw [if_neg c3, if_neg c3]
      have ee : encV .null = [1] := by simp [encV, Val.null]
      refine ⟨fun h => by simp at h, fun x h hp => ?_, fun x h hp => ?_⟩
      · simp at h; subst h
        unfold PreV at hp
        rw [ee, ed] at hp
        obtain ⟨r, hr⟩ := hp
        simp at hr
        have : s[0].toNat = 1 := by rw [hr.1]; rfl
        rw [if_pos this, ee]; rfl
      · simp at h; subst h
        rw [if_neg]
        intro c1
        apply hp
        unfold PreV
        rw [ee, ed]
        exact ⟨dropB s 1, by simp; rw [← ofI_nat s[0], c1]; rfl⟩

end Go.Proofs.Ytbmeoabafmpacaa
