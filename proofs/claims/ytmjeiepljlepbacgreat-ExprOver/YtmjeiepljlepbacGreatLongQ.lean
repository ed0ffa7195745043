import Derived.Test.YtmjeiepljlepbacGreatLongP
import Derived.Deep.RegionHeld3
set_option linter.unusedSimpArgs false
set_option linter.unusedVariables false
set_option maxRecDepth 100000
namespace Go.Proofs.YtmjeiepljlepbacGreat
open Go.RowKit Go.Sort
theorem LongS.sign {w : World} {s : Value} {u z : Int} (h : LongS w s u) (b : Bool) (hb : b = decide (z < 0)) (hz : u = z ∨ u = -z) : LongV w (.agg #[.bool b, s]) z := by
  obtain ⟨a, c, zs, rfl, h2, h3, h4, h5, h6, h7⟩ := h
  exact ⟨a, c, zs, by rw [hb], h2, h3, h4, h5, h6, by rw [h7]; exact hz⟩
theorem len_four {ds : List Int} {z : Int} (hd : Digs ds) (ht : trimN ds ds.length = ds.length) (hv : valD ds = z ∨ valD ds = -z) (hz : In64 z) : ds.length ≤ 4 := by
  unfold In64 at hz
  cases hl : ds.length with
  | zero => omega
  | succ n =>
    have h1 := val_ge hd hl ht
    by_cases h : n < 4
    · omega
    · have h2 := pow_mono (m := 4) (n := n) (by omega)
      have h3 : (65536 : Int) ^ 4 = 18446744073709551616 := by decide
      omega
theorem value_v (v : Value) (z : Int) (w : World) (hz : Fits z) (hv : LongV w v z) :
    Calls Tryz.prog 155 #[v] w fun e w' => e = .returned (optV (if fitsB z then some z else none)).v ∧ Below w.heap.size w w' := by
  obtain ⟨a, c, ds, rfl, h2, h3, h4, h5, h6, h7⟩ := hv
  have hl := fits_len h5 h6 h7 hz
  refine (value_any a c ds _ w (by omega) h5 h4).mono fun e w' ⟨he, hb⟩ => ⟨?_, hb⟩
  rw [he]
  have h0 := valD_nonneg h5
  have e1 : valueV (decide (z < 0)) ds = optV (if fitsB z then some z else none) := by
    unfold valueV
    by_cases h : 4 < ds.length
    · rw [if_pos h]
      obtain ⟨n, hn⟩ : ∃ n, ds.length = n + 1 := ⟨ds.length - 1, by omega⟩
      have h8 := val_ge h5 hn h6
      have h9 := pow_mono (m := 4) (n := n) (by omega)
      have h10 : (65536 : Int) ^ 4 = 18446744073709551616 := by decide
      rw [if_neg]
      · rfl
      · simp [fitsB]; omega
    · rw [if_neg h]
      by_cases hneg : z < 0
      · have hv : valD ds = -z := by omega
        rw [decide_eq_true hneg, if_pos rfl, hv]
        by_cases hf : fitsB z = true
        · rw [if_pos hf]
          simp [fitsB] at hf
          rw [if_pos (by omega), Int.neg_neg]; rfl
        · rw [if_neg hf]
          simp [fitsB] at hf
          rw [if_neg (by omega)]; rfl
      · have hv : valD ds = z := by omega
        rw [decide_eq_false hneg, if_neg (by simp), hv]
        by_cases hf : fitsB z = true
        · rw [if_pos hf]
          simp [fitsB] at hf
          rw [if_pos (by omega)]; rfl
        · rw [if_neg hf]
          simp [fitsB] at hf
          rw [if_neg (by omega)]; rfl
  rw [e1]
theorem sign_mul (x y X Y : Int) (hX : 0 ≤ X) (hY : 0 ≤ Y) (h1 : X = x ∨ X = -x) (h2 : Y = y ∨ Y = -y) : ((decide (x < 0) != decide (y < 0)) && decide (0 < X * Y)) = decide (x * y < 0) ∧ (X * Y = x * y ∨ X * Y = -(x * y)) := by
  have sx : (x < 0 ∧ X = -x) ∨ (¬ x < 0 ∧ X = x) := by omega
  have sy : (y < 0 ∧ Y = -y) ∨ (¬ y < 0 ∧ Y = y) := by omega
  have hp := Int.mul_nonneg hX hY
  rcases sx with ⟨a1, rfl⟩ | ⟨a1, rfl⟩ <;> rcases sy with ⟨a2, rfl⟩ | ⟨a2, rfl⟩ <;> simp only [a1, a2, Int.neg_mul, Int.mul_neg, Int.neg_neg] at hp ⊢ <;> refine ⟨?_, by first | exact trivial | exact .inl rfl | exact .inr rfl | exact .inr (Int.neg_neg _).symm | (simp; done) | omega⟩ <;> rw [Bool.eq_iff_iff] <;> simp <;> omega
theorem times_v (vx vy : Value) (x y : Int) (w : World) (ix : In64 x) (iy : In64 y) (hx : LongV w vx x) (hy : LongV w vy y) :
    Calls Tryz.prog 157 #[vx, vy] w fun e w' => ∃ v, e = .returned v ∧ LongV w' v (x * y) ∧ Below w.heap.size w w' := by
  obtain ⟨a, ca, ds, rfl, h2, h3, h4, h5, h6, h7⟩ := hx
  obtain ⟨b, cb, es, rfl, k2, k3, k4, k5, k6, k7⟩ := hy
  have l1 := len_four h5 h6 h7 ix
  have l2 := len_four k5 k6 k7 iy
  refine (times_s a b ca cb ds es _ _ w (by omega) (by omega) h5 k5 h4 k4).mono fun e w' ⟨s, he, hs, hb⟩ => ⟨_, he, ?_, hb⟩
  have := sign_mul x y _ _ (valD_nonneg h5) (valD_nonneg k5) h7 k7
  exact hs.sign _ this.1 this.2
theorem sign_div (x y X Y : Int) (hX : 0 ≤ X) (hY : 0 < Y) (h1 : X = x ∨ X = -x) (h2 : Y = y ∨ Y = -y) :
    (((decide (x < 0) != decide (y < 0)) && decide (0 < X / Y)) = decide (x.tdiv y < 0) ∧ (X / Y = x.tdiv y ∨ X / Y = -(x.tdiv y))) ∧ ((decide (x < 0) && decide (0 < X % Y)) = decide (x.tmod y < 0) ∧ (X % Y = x.tmod y ∨ X % Y = -(x.tmod y))) := by
  have sx : (x < 0 ∧ x = -X) ∨ (¬ x < 0 ∧ x = X) := by omega
  have sy : (y < 0 ∧ y = -Y) ∨ (¬ y < 0 ∧ y = Y) := by omega
  have d1 : X.tdiv Y = X / Y := Int.tdiv_eq_ediv_of_nonneg hX
  have d2 : X.tmod Y = X % Y := Int.tmod_eq_emod_of_nonneg hX
  have q0 : 0 ≤ X / Y := Int.ediv_nonneg hX (by omega)
  have r0 : 0 ≤ X % Y := Int.emod_nonneg _ (by omega)
  clear h1 h2
  rcases sx with ⟨a1, e1⟩ | ⟨a1, e1⟩ <;> rcases sy with ⟨a2, e2⟩ | ⟨a2, e2⟩ <;> simp only [a1, a2] <;> rw [e1, e2] <;> simp only [Int.neg_tdiv, Int.tdiv_neg, Int.neg_tmod, Int.tmod_neg, Int.neg_neg, d1, d2] <;> refine ⟨⟨?_, by first | exact trivial | exact .inl rfl | exact .inr rfl | exact .inr (Int.neg_neg _).symm | (simp; done) | omega⟩, ?_, by first | exact trivial | exact .inl rfl | exact .inr rfl | exact .inr (Int.neg_neg _).symm | (simp; done) | omega⟩ <;> rw [Bool.eq_iff_iff] <;> simp <;> omega
theorem divided_v (vx vy : Value) (x y : Int) (w : World) (ix : In64 x) (iy : In64 y) (hy0 : ¬ y = 0) (hx : LongV w vx x) (hy : LongV w vy y) :
    Calls Tryz.prog 158 #[vx, vy] w fun e w' => ∃ s t, e = .returned (.tuple #[s, t]) ∧ LongV w' s (x.tdiv y) ∧ LongV w' t (x.tmod y) ∧ Below w.heap.size w w' := by
  obtain ⟨a, ca, ds, rfl, h2, h3, h4, h5, h6, h7⟩ := hx
  obtain ⟨b, cb, es, rfl, k2, k3, k4, k5, k6, k7⟩ := hy
  have l1 := len_four h5 h6 h7 ix
  have l2 := len_four k5 k6 k7 iy
  have hY : 0 < valD es := by have := valD_nonneg k5; omega
  refine (divided_s a b ca cb ds es _ _ w (by omega) (by omega) h5 hY h4 ⟨b, cb, es, rfl, k2, k3, k4, k5, k6, rfl⟩).mono fun e w' ⟨s, t, he, hs, ht, hb⟩ => ⟨_, _, he, ?_, ?_, hb⟩
  · have := sign_div x y _ _ (valD_nonneg h5) hY h7 k7
    exact hs.sign _ this.1.1 this.1.2
  · have := sign_div x y _ _ (valD_nonneg h5) hY h7 k7
    exact ht.sign _ this.2.1 this.2.2
theorem turned_v (v : Value) (y : Int) (w : World) (iy : In64 y) (hv : LongV w v y) : ∃ a l c, v = .agg #[.bool (decide (y < 0)), .slice a l c] ∧
    Calls Tryz.prog 156 #[.agg #[.bool (!decide (y < 0)), .slice a l c]] w fun e w' => ∃ t, e = .returned t ∧ LongV w' t (-y) ∧ Below w.heap.size w w' := by
  obtain ⟨b, cb, es, rfl, k2, k3, k4, k5, k6, k7⟩ := hv
  have l2 := len_four k5 k6 k7 iy
  refine ⟨b, es.length, cb, rfl, (trimmed_s b cb es _ w (by omega) k2 k3 k5 k4).mono fun e w' ⟨s, he, hs, hb⟩ => ⟨_, he, hs.sign _ ?_ (by omega), hb⟩⟩
  have h0 := valD_nonneg k5
  by_cases h : y < 0
  · simp [h]; omega
  · simp [h]; omega
theorem LongV.parts {w : World} {v : Value} {z : Int} (h : LongV w v z) : ∃ a l c u, v = .agg #[.bool (decide (z < 0)), .slice a l c] ∧ LongS w (.slice a l c) u ∧ (u = z ∨ u = -z) := by
  obtain ⟨b, cb, es, rfl, k2, k3, k4, k5, k6, k7⟩ := h
  exact ⟨b, es.length, cb, valD es, rfl, ⟨b, cb, es, rfl, k2, k3, k4, k5, k6, rfl⟩, k7⟩
theorem reck_clean (op : Int) (a b : Val) : reckV op a b = if (cleanV a).k == 1 && (cleanV b).k == 1 then optV (reck op (cleanV a).n (cleanV b).n) else .null := by
  have hk : ∀ x : Val, ((cleanV x).k == 1) = (x.k == 1) := fun x => by unfold cleanV; cases h1 : (x.k == 1) <;> cases h2 : (x.k == 2) <;> simp [Val.num, Val.str, Val.null]
  have hn : ∀ x : Val, (x.k == 1) = true → (cleanV x).n = x.n := fun x h => by unfold cleanV; simp [h, Val.num]
  unfold reckV
  rw [hk, hk]
  cases h1 : (a.k == 1)
  · rfl
  · cases h2 : (b.k == 1)
    · rfl
    · simp only [Bool.and_self, if_true]
      rw [hn a h1, hn b h2]
theorem clean_inL {x : Val} (h : In64 x.n) : In64 (cleanV x).n := by
  unfold cleanV In64 at *
  split
  · exact h
  · split <;> simp [Val.str, Val.null]
/-- Boxes that are laid, longs that are known. -/
structure RS (W0 w : World) (bs : List Nat) (vs : List (Value × Int)) : Prop where
  below : Below W0.heap.size W0 w
  box : ∀ g ∈ bs, Bx w g false (.slice none 0 0) ∧ W0.heap.size ≤ g ∧ g < w.heap.size
  long : ∀ p ∈ vs, LongS w p.1 p.2
  apart : bs.Pairwise (· ≠ ·)
theorem RS.start (W0 : World) : RS W0 W0.drew [] [] := ⟨(Below.refl _ _).drew, by simp, by simp, .nil⟩
theorem RS.alloc {W0 w : World} {bs : List Nat} {vs : List (Value × Int)} (h : RS W0 w bs vs) : RS W0 (w.alloc (.cells #[.bool false, .slice none 0 0] 159)) (w.heap.size :: bs) vs := by
  have bl := below_alloc (Below.refl _ w) (.cells #[.bool false, .slice none 0 0] 159)
  refine ⟨below_step h.below bl, fun g hg => ?_, fun p hp => (h.long p hp).later bl, .cons (fun g hg => Nat.ne_of_gt (h.box g hg).2.2) h.apart⟩
  rcases List.mem_cons.1 hg with e | hg
  · subst e
    exact ⟨⟨box2_alloc w _ _, _, _, _, rfl⟩, h.below.size, by simp⟩
  · have := h.box g hg
    exact ⟨this.1.later bl, this.2.1, by simp; omega⟩
theorem RS.call {W0 w w' : World} {bs : List Nat} {vs : List (Value × Int)} {v : Value} {z : Int} (h : RS W0 w bs vs) (hb : Below w.heap.size w w') (hv : LongS w' v z) : RS W0 w' bs ((v, z) :: vs) := by
  refine ⟨below_step h.below hb, fun g hg => ?_, fun p hp => ?_, h.apart⟩
  · have := h.box g hg
    exact ⟨this.1.later hb, this.2.1, by have := hb.size; omega⟩
  · rcases List.mem_cons.1 hp with e | hp
    · subst e; exact hv
    · exact (h.long p hp).later hb
theorem RS.done {W0 w : World} {bs : List Nat} {vs : List (Value × Int)} (h : RS W0 w bs vs) {b7 b8 : Nat} (h7 : b7 ∈ bs) (h8 : b8 ∈ bs) (hne : b7 ≠ b8) {sx sy : Value} {x y ux uy : Int} {m n : Bool} (hx : (sx, ux) ∈ vs) (hy : (sy, uy) ∈ vs) (kx : Hid (ux = x ∨ ux = -x)) (ky : Hid (uy = y ∨ uy = -y)) :
    Bx ((((w.setCell ⟨b7, 0, none⟩ (.bool m)).setCell ⟨b7, 1, none⟩ sx).setCell ⟨b8, 0, none⟩ (.bool n)).setCell ⟨b8, 1, none⟩ sy) b7 m sx ∧
    Bx ((((w.setCell ⟨b7, 0, none⟩ (.bool m)).setCell ⟨b7, 1, none⟩ sx).setCell ⟨b8, 0, none⟩ (.bool n)).setCell ⟨b8, 1, none⟩ sy) b8 n sy ∧
    LongS ((((w.setCell ⟨b7, 0, none⟩ (.bool m)).setCell ⟨b7, 1, none⟩ sx).setCell ⟨b8, 0, none⟩ (.bool n)).setCell ⟨b8, 1, none⟩ sy) sx ux ∧
    LongS ((((w.setCell ⟨b7, 0, none⟩ (.bool m)).setCell ⟨b7, 1, none⟩ sx).setCell ⟨b8, 0, none⟩ (.bool n)).setCell ⟨b8, 1, none⟩ sy) sy uy ∧ Hid (ux = x ∨ ux = -x) ∧ Hid (uy = y ∨ uy = -y) ∧ b7 ≠ b8 ∧ W0.heap.size ≤ b7 ∧ W0.heap.size ≤ b8 ∧
    Below W0.heap.size W0 ((((w.setCell ⟨b7, 0, none⟩ (.bool m)).setCell ⟨b7, 1, none⟩ sx).setCell ⟨b8, 0, none⟩ (.bool n)).setCell ⟨b8, 1, none⟩ sy) := by
  obtain ⟨c7, l7, _⟩ := h.box b7 h7
  obtain ⟨c8, l8, _⟩ := h.box b8 h8
  have lx := h.long _ hx
  have ly := h.long _ hy
  have d7 := c7.same m sx lx.shape
  have d8 := c8.other (g' := b7) hne.symm m sx
  refine ⟨d7.other hne n sy, d8.same n sy ly.shape, d8.long (c7.long lx _ _) _ _, d8.long (c7.long ly _ _) _ _, kx, ky, hne, l7, l8, ?_⟩
  exact (((h.below.setCell (by simp; omega) _).setCell (by simp; omega) _).setCell (by simp; omega) _).setCell (by simp; omega) _
section
variable {P : Program} {ops : Array Oper} {Q : Exit → Act → World → Prop} {md : Region.Mode} {S : World → Prop} {k : Nat}
theorem leafA {f : Nat} {L : Array Bool} {a : Act} {W0 W : World} {bs : List Nat} {vs : List (Value × Int)} (HS : Hid (RS W0 W bs vs)) (h : ∀ W', Hid (RS W0 W' bs vs) → anyG P md ops Q S k f L a W') : anyG P md ops Q S k f L a W := h W HS
end

theorem fits_inL {x : Int} (h : In64 x) : Fits x := by
  unfold In64 at h
  have : (18446744073709551616 : Int) < 65536 ^ 30 := by decide
  exact ⟨by omega, by omega⟩
theorem fits_add {x y : Int} (h : In64 x) (k : In64 y) : Fits (x + y) := by
  unfold In64 at h k
  have : (18446744073709551616 : Int) < 65536 ^ 30 := by decide
  exact ⟨by omega, by omega⟩
theorem fits_sub {x y : Int} (h : In64 x) (k : In64 y) : Fits (x + -y) := by
  unfold In64 at h k
  have : (18446744073709551616 : Int) < 65536 ^ 30 := by decide
  exact ⟨by omega, by omega⟩
theorem fits_mul {x y : Int} (h : In64 x) (k : In64 y) : Fits (x * y) := by
  unfold In64 at h k
  have e1 : (x * y).natAbs = x.natAbs * y.natAbs := Int.natAbs_mul x y
  have e2 : x.natAbs * y.natAbs ≤ 9223372036854775808 * 9223372036854775808 := Nat.mul_le_mul (by omega) (by omega)
  have : (9223372036854775808 * 9223372036854775808 : Int) < 65536 ^ 30 := by decide
  exact ⟨by omega, by omega⟩
theorem fits_div {x y : Int} (h : In64 x) : Fits (x.tdiv y) := by
  unfold In64 at h
  have e4 := Int.natAbs_tdiv_le_natAbs x y
  have : (18446744073709551616 : Int) < 65536 ^ 30 := by decide
  exact ⟨by omega, by omega⟩
theorem fits_mod {x y : Int} (h : In64 x) : fitsB (x.tmod y) = true ∧ Fits (x.tmod y) := by
  unfold In64 at h
  have e4 : -9223372036854775808 ≤ x.tmod y ∧ x.tmod y ≤ 9223372036854775807 := by
    by_cases hx : 0 ≤ x
    · have h1 := Int.tmod_nonneg y hx
      have h2 : x.tmod y ≤ x := by
        have h3 : (x.tmod y).natAbs ≤ x.natAbs := by rw [Int.natAbs_tmod]; exact Nat.mod_le _ _
        omega
      omega
    · have h1 : (-x).tmod y = -(x.tmod y) := Int.neg_tmod x y
      have h2 := Int.tmod_nonneg y (a := -x) (by omega)
      have h3 : (x.tmod y).natAbs ≤ x.natAbs := by rw [Int.natAbs_tmod]; exact Nat.mod_le _ _
      omega
  have : (18446744073709551616 : Int) < 65536 ^ 30 := by decide
  refine ⟨by simp [fitsB]; omega, by omega, by omega⟩
theorem ZeroAt.set {w : World} {b g j : Nat} {u : Value} (h : ZeroAt w b) (hne : b ≠ g) : ZeroAt (w.setCell ⟨g, j, none⟩ u) b := by
  obtain ⟨z0, z1, z2, z3, z4, z5⟩ := h
  have hne' := hne.symm
  exact ⟨by simp [go_sem, *], by simp [go_sem, *], by simp [go_sem, *], by simp [go_sem, *], by simp [go_sem, *], by simp [go_sem, *]⟩
theorem turned_a (a : Option Addr) (l c : Nat) (y : Int) (w : World) (iy : In64 y) (hv : LongV w (.agg #[.bool (decide (y < 0)), .slice a l c]) y) :
    Calls Tryz.prog 156 #[.agg #[.bool (!decide (y < 0)), .slice a l c]] w fun e w' => ∃ t, e = .returned t ∧ LongV w' t (-y) ∧ Below w.heap.size w w' := by
  obtain ⟨a', l', c', e, h⟩ := turned_v _ y w iy hv
  have e2 : Value.slice a l c = Value.slice a' l' c' := by simpa using e
  rw [e2]
  exact h
theorem box_lt {w : World} {b : Nat} (h : ZeroAt w b) : b < w.heap.size := by
  refine Nat.lt_of_not_le fun hh => ?_
  have h0 := h.1
  simp [World.cell?, Array.getElem?_eq_none hh] at h0

end Go.Proofs.YtmjeiepljlepbacGreat
