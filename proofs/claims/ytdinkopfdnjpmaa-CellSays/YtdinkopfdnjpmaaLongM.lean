import Derived.Test.YtdinkopfdnjpmaaLongK
set_option linter.unusedSimpArgs false
set_option linter.unusedVariables false
namespace Go.Proofs.Ytdinkopfdnjpmaa
open Go.RowKit Go.Sort

/-- A box with a long's sign and digits. -/
def Bx (w : World) (g : Nat) (o : Bool) (s : Value) : Prop := w.rowIs g 58 2 (box2 (.bool o) s) ∧ ∃ a l c, s = .slice a l c
theorem Bx.later {w w' : World} {g : Nat} {o : Bool} {s : Value} (h : Bx w g o s) (hb : Below w.heap.size w w') : Bx w' g o s := ⟨rowIs_later h.1 hb, h.2⟩
theorem Bx.alloc {w : World} {g : Nat} {o : Bool} {s : Value} (h : Bx w g o s) (ob : Obj) : Bx (w.alloc ob) g o s := ⟨h.1.alloc ob, h.2⟩
theorem Bx.other {w : World} {g g' : Nat} {o : Bool} {s : Value} (h : Bx w g o s) (hne : g ≠ g') (o' : Bool) (s' : Value) : Bx ((w.setCell ⟨g', 0, none⟩ (.bool o')).setCell ⟨g', 1, none⟩ s') g o s := ⟨(h.1.setOther hne _).setOther hne _, h.2⟩
theorem Bx.same {w : World} {g : Nat} {o : Bool} {s : Value} (h : Bx w g o s) (o' : Bool) (s' : Value) (hs : ∃ a l c, s' = .slice a l c) : Bx ((w.setCell ⟨g, 0, none⟩ (.bool o')).setCell ⟨g, 1, none⟩ s') g o' s' := ⟨box2_both h.1, hs⟩
theorem Bx.long {w : World} {g : Nat} {o : Bool} {s t : Value} {z : Int} (h : Bx w g o s) (ht : LongS w t z) (o' : Bool) (s' : Value) : LongS ((w.setCell ⟨g, 0, none⟩ (.bool o')).setCell ⟨g, 1, none⟩ s') t z := ht.set2 h.1 h.2

/-- The boxes of 'divided'. -/
structure DB (w wx : World) (tb : Nat) (m n : Bool) (x y q r t : Value) (Q R Y : Int) : Prop where
  below : Below w.heap.size w wx
  bx : Bx wx w.heap.size m x
  bn : Bx wx (w.heap.size + 1) n y
  z1 : Bx wx (w.heap.size + 1 + 1) false (.slice none 0 0)
  z2 : Bx wx (w.heap.size + 1 + 1 + 1) false (.slice none 0 0)
  bq : Bx wx (w.heap.size + 1 + 1 + 1 + 1) false q
  br : Bx wx (w.heap.size + 1 + 1 + 1 + 1 + 1) false r
  bt : Bx wx tb false t
  bs : Bx wx (tb + 1) false y
  lq : LongS wx q Q
  lr : LongS wx r R
  lt : LongS wx t 2
  ly : LongS wx y Y
  ht : w.heap.size + 1 + 1 + 1 + 1 + 1 < tb
theorem DB.later {w wx wy : World} {tb : Nat} {m n : Bool} {x y q r t : Value} {Q R Y : Int} (h : DB w wx tb m n x y q r t Q R Y) (hb : Below wx.heap.size wx wy) : DB w wy tb m n x y q r t Q R Y :=
  ⟨below_step h.below hb, h.bx.later hb, h.bn.later hb, h.z1.later hb, h.z2.later hb, h.bq.later hb, h.br.later hb, h.bt.later hb, h.bs.later hb, h.lq.later hb, h.lr.later hb, h.lt.later hb, h.ly.later hb, h.ht⟩
theorem DB.putq {w wx : World} {tb : Nat} {m n : Bool} {x y q r t q' : Value} {Q R Y Q' : Int} (h : DB w wx tb m n x y q r t Q R Y) (hq : LongS wx q' Q') :
    DB w ((wx.setCell ⟨w.heap.size + 1 + 1 + 1 + 1, 0, none⟩ (.bool false)).setCell ⟨w.heap.size + 1 + 1 + 1 + 1, 1, none⟩ q') tb m n x y q' r t Q' R Y := by
  have := h.ht
  exact ⟨(h.below.setCell (by simp; omega) _).setCell (by simp; omega) _, h.bx.other (by omega) _ _, h.bn.other (by omega) _ _, h.z1.other (by omega) _ _, h.z2.other (by omega) _ _, h.bq.same _ _ hq.shape, h.br.other (by omega) _ _, h.bt.other (by omega) _ _, h.bs.other (by omega) _ _, h.bq.long hq _ _, h.bq.long h.lr _ _, h.bq.long h.lt _ _, h.bq.long h.ly _ _, h.ht⟩
theorem DB.putr {w wx : World} {tb : Nat} {m n : Bool} {x y q r t r' : Value} {Q R Y R' : Int} (h : DB w wx tb m n x y q r t Q R Y) (hr : LongS wx r' R') :
    DB w ((wx.setCell ⟨w.heap.size + 1 + 1 + 1 + 1 + 1, 0, none⟩ (.bool false)).setCell ⟨w.heap.size + 1 + 1 + 1 + 1 + 1, 1, none⟩ r') tb m n x y q r' t Q R' Y := by
  have := h.ht
  exact ⟨(h.below.setCell (by simp; omega) _).setCell (by simp; omega) _, h.bx.other (by omega) _ _, h.bn.other (by omega) _ _, h.z1.other (by omega) _ _, h.z2.other (by omega) _ _, h.bq.other (by omega) _ _, h.br.same _ _ hr.shape, h.bt.other (by omega) _ _, h.bs.other (by omega) _ _, h.br.long h.lq _ _, h.br.long hr _ _, h.br.long h.lt _ _, h.br.long h.ly _ _, h.ht⟩

theorem times_two (s t : Value) (z : Int) (w : World) (hz : z < 65536 ^ 9) (hs : LongS w s z) (ht : LongS w t 2) :
    Calls Try.prog 56 #[.agg #[.bool false, s], .agg #[.bool false, t]] w fun e w' => ∃ r, e = .returned (.agg #[.bool false, r]) ∧ LongS w' r (z * 2) ∧ Below w.heap.size w w' := by
  have hn := hs.nonneg
  obtain ⟨a, c, zs, rfl, h2, h3, h4, h5, h6, h7⟩ := hs
  obtain ⟨b, d, es, rfl, k2, k3, k4, k5, k6, k7⟩ := ht
  have len10 : ∀ {l : List Int} {v : Int}, Digs l → trimN l l.length = l.length → valD l = v → v < 65536 ^ 9 → l.length ≤ 10 := by
    intro l v hd ht hv hb
    cases hl : l.length with
    | zero => omega
    | succ n =>
      have h1 := val_ge hd hl ht
      by_cases h : n < 9
      · omega
      · have h2 := pow_mono (m := 9) (n := n) (by omega)
        omega
  have h9 : (2 : Int) < 65536 ^ 9 := by decide
  refine (times_s a b c d zs es false false w (len10 h5 h6 h7 hz) (len10 k5 k6 k7 h9) h5 k5 h4 k4).mono fun e w' ⟨r, he, hr, hb⟩ => ?_
  subst he
  rw [h7, k7] at hr
  exact ⟨r, by simp, hr, hb⟩
theorem plus_s (s t : Value) (z u : Int) (w : World) (hz : z < 65536 ^ 29) (hu : u < 65536 ^ 29) (hs : LongS w s z) (ht : LongS w t u) :
    Calls Try.prog 53 #[.agg #[.bool false, s], .agg #[.bool false, t]] w fun e w' => ∃ r, e = .returned (.agg #[.bool false, r]) ∧ LongS w' r (z + u) ∧ Below w.heap.size w w' := by
  have z0 := hs.nonneg
  have u0 := ht.nonneg
  have z4 : (65536 : Int) ^ 29 < 65536 ^ 30 := by decide
  refine (plus_any _ _ z u w ⟨by omega, by omega⟩ ⟨by omega, by omega⟩ hs.long ht.long).mono fun e w' ⟨v, he, hv, hb⟩ => ?_
  obtain ⟨r, rfl, hr⟩ := hv.plain (by omega)
  exact ⟨r, he, hr, hb⟩
theorem minus_s (s t : Value) (z u : Int) (w : World) (hz : z < 65536 ^ 29) (hu : 0 < u) (huz : u ≤ z) (hs : LongS w s z) (ht : LongS w t u) :
    Calls Try.prog 53 #[.agg #[.bool false, s], .agg #[.bool true, t]] w fun e w' => ∃ r, e = .returned (.agg #[.bool false, r]) ∧ LongS w' r (z - u) ∧ Below w.heap.size w w' := by
  have z4 : (65536 : Int) ^ 29 < 65536 ^ 30 := by decide
  have htv : LongV w (.agg #[.bool true, t]) (-u) := by
    obtain ⟨b, d, es, rfl, k2, k3, k4, k5, k6, k7⟩ := ht
    exact ⟨b, d, es, by rw [show decide (-u < 0) = true by simp; omega], k2, k3, k4, k5, k6, .inr (by omega)⟩
  refine (plus_any _ _ z (-u) w ⟨by omega, by omega⟩ ⟨by omega, by omega⟩ hs.long htv).mono fun e w' ⟨v, he, hv, hb⟩ => ?_
  obtain ⟨r, rfl, hr⟩ := hv.plain (by omega)
  exact ⟨r, he, hr, hb⟩
theorem size_s (s t : Value) (z u : Int) (w : World) (hz : z < 65536 ^ 30) (hu : u < 65536 ^ 30) (hs : LongS w s z) (ht : LongS w t u) :
    Calls Try.prog 74 #[.agg #[.bool false, s], .agg #[.bool false, t]] w fun e w' => e = .returned (.int .i64 (cmpI z u)) ∧ Below w.heap.size w w' := by
  have l1 := long_len hs hz
  have l2 := long_len ht hu
  obtain ⟨a, c, zs, rfl, h2, h3, h4, h5, h6, h7⟩ := hs
  obtain ⟨b, d, es, rfl, k2, k3, k4, k5, k6, k7⟩ := ht
  have := l1 _ _ _ rfl
  have := l2 _ _ _ rfl
  refine (size_any a b c d zs es false false w (by omega) (by omega) h4 k4).mono fun e w' ⟨he, hb⟩ => ?_
  rw [sizeV_val h5 k5 h6 k6, h7, k7] at he
  exact ⟨he, hb⟩
theorem longOf_s (n : Int) (w : World) (hn : In64 n) (h0 : 0 ≤ n) : Calls Try.prog 52 #[.int .i64 n] w fun e w' => ∃ s, e = .returned (.agg #[.bool false, s]) ∧ LongS w' s n ∧ Below w.heap.size w w' := by
  refine (longOf_any n w hn).mono fun e w' ⟨v, he, hv, hb⟩ => ?_
  obtain ⟨s, rfl, hs⟩ := hv.plain h0
  exact ⟨s, he, hs, hb⟩

theorem div_bit (P Q R Y b : Int) (hY : 0 < Y) (hb : b = 0 ∨ b = 1) (hQ : Q = P / Y) (hR : R = P % Y) :
    (Y ≤ R * 2 + b → Q * 2 + 1 = (2 * P + b) / Y ∧ R * 2 + b - Y = (2 * P + b) % Y) ∧ (R * 2 + b < Y → Q * 2 = (2 * P + b) / Y ∧ R * 2 + b = (2 * P + b) % Y) := by
  have h1 := Int.emod_add_mul_ediv P Y
  have h2 := Int.emod_nonneg P (by omega : Y ≠ 0)
  have h3 := Int.emod_lt_of_pos P hY
  rw [← hQ, ← hR] at h1
  rw [← hR] at h2 h3
  constructor
  · intro h
    have e : 2 * P + b = (R * 2 + b - Y) + Y * (Q * 2 + 1) := by
      have e1 : Y * (Q * 2 + 1) = Y * Q * 2 + Y := by rw [Int.mul_add, Int.mul_one, Int.mul_assoc]
      rw [e1]
      omega
    rw [e]
    refine ⟨?_, ?_⟩
    · rw [Int.add_mul_ediv_left _ _ (by omega : Y ≠ 0), Int.ediv_eq_zero_of_lt (by omega) (by omega)]; omega
    · rw [Int.add_mul_emod_self_left, Int.emod_eq_of_lt (by omega) (by omega)]
  · intro h
    have e : 2 * P + b = (R * 2 + b) + Y * (Q * 2) := by
      have e1 : Y * (Q * 2) = Y * Q * 2 := by rw [Int.mul_assoc]
      rw [e1]
      omega
    rw [e]
    refine ⟨?_, ?_⟩
    · rw [Int.add_mul_ediv_left _ _ (by omega : Y ≠ 0), Int.ediv_eq_zero_of_lt (by omega) (by omega)]; omega
    · rw [Int.add_mul_emod_self_left, Int.emod_eq_of_lt (by omega) (by omega)]
end Go.Proofs.Ytdinkopfdnjpmaa
