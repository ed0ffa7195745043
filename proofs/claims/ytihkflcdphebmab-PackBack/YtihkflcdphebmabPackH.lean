import Derived.Test.YtihkflcdphebmabPackG
set_option linter.unusedSimpArgs false
set_option linter.unusedVariables false
namespace Go.Proofs.Ytihkflcdphebmab
open Go.RowKit Go.Sort

theorem below_drewN {W0 w : World} (h : Below W0.heap.size W0 w) (n : Nat) : Below W0.heap.size W0 (World.drewN w n) := by
  induction n with
  | zero => exact h
  | succ n ih => exact ih.drew
/-- The same value. -/
def sameB (x y : Val) : Bool := x.k == y.k && x.n == y.n && x.s.toList == y.s.toList
/-- How many from the first one on are the same. -/
def aheadN (xs : List Val) : Nat := (xs.takeWhile fun y => sameB y (xs.headD Val.null)).length
theorem while_len {α : Type} (p : α → Bool) : ∀ (xs : List α) (k : Nat), (∀ i y, i < k → xs[i]? = some y → p y = true) → k ≤ xs.length → (∀ y, xs[k]? = some y → p y = false) → (xs.takeWhile p).length = k
  | [], k, _, hk, _ => by simp at hk; simp [hk]
  | x :: xs, 0, _, _, h => by
    have := h x (by simp)
    simp [List.takeWhile_cons, this]
  | x :: xs, k + 1, h, hk, h2 => by
    have h0 := h 0 x (by omega) (by simp)
    rw [List.takeWhile_cons, h0]
    have ih := while_len p xs k (fun i y hi hy => h (i + 1) y (by omega) (by simpa using hy)) (by simpa using hk) (fun y hy => h2 y (by simpa using hy))
    simp [ih]

set_option maxHeartbeats 2000000 in
set_option maxRecDepth 100000 in
theorem ahead_any (aa : Option Addr) (ca : Nat) (xs : List Val) (w : World) (hl : xs.length ≤ 1048576) (ha : RowAt w aa xs) :
    Calls Try.prog 75 #[.slice aa xs.length ca] w fun e w' => e = .returned (.int .i64 (aheadN xs)) ∧ Below w.heap.size w w' := by
  have HA := hide ha
  clear ha
  have HL : Hid (∀ k, (∀ i y, i < k → xs[i]? = some y → sameB y (xs.headD Val.null) = true) → k ≤ xs.length → (∀ y, xs[k]? = some y → sameB y (xs.headD Val.null) = false) → aheadN xs = k) := fun k => while_len _ xs k
  generalize aheadN xs = R at *
  go_enter Try.func75, Try.ntmps75
  go_wp2_with fail
  go_loopw [7] (fun s wr => ∃ k : Nat, k ≤ xs.length ∧ s = .int .i64 (k : Int) ∧ Hid (∀ i y, i < k → xs[i]? = some y → sameB y (xs.headD Val.null) = true) ∧ Below w.heap.size w wr) (fun s _ => xs.length - (intOf s).toNat)
  case atStart => exact ⟨0, Nat.zero_le _, rfl, fun i y hi => by omega, Below.refl _ _⟩
  case round =>
    obtain ⟨k, hk, rfl, HS, hb⟩ := hrel
    by_cases h8 : k < xs.length
    · have h9 : (k : Int) < (xs.length : Int) := by omega
      have h90 : (0 : Int) < (xs.length : Int) := by omega
      obtain ⟨x, hx⟩ : ∃ x, xs[k]? = some x := ⟨_, List.getElem?_eq_getElem h8⟩
      obtain ⟨z, hz⟩ : ∃ z, xs[0]? = some z := ⟨_, List.getElem?_eq_getElem (by omega)⟩
      have hh : xs.headD Val.null = z := by cases xs with | nil => simp at hz | cons y ys => simpa using hz
      have bl := below_alloc (Below.refl _ wr) (.cells #[.int .i64 x.k, .int .i64 x.n, .string x.s] 40)
      have HB1 := hide (below_step hb bl)
      have hA1 := (unhide HA).later (below_step hb bl)
      rcases (unhide HA).later hb with e | ⟨b, off, rfl, hc⟩
      · rw [e] at hx; cases hx
      obtain ⟨c0, c1, c2⟩ := hc k x hx
      have HX := hide hx
      have HH := hide hh
      rcases hA1 with e | ⟨b', off', eb, hc'⟩
      · rw [e] at hx; cases hx
      injection eb with eb
      injection eb with eb1 eb2
      subst eb1 eb2
      obtain ⟨d0, d1, d2⟩ := hc' 0 z hz
      simp only [Nat.zero_mul, Nat.add_zero] at d0 d1 d2
      have HCELL : Hid ((wr.alloc (.cells #[.int .i64 x.k, .int .i64 x.n, .string x.s] 40)).cell? ⟨wr.heap.size, 0, none⟩ = some (.int .i64 x.k)) := by show _ = _; simp [go_sem]
      clear hc hc' hx hz hb bl
      go_upto_region 4 with fail
      obtain ⟨W, hW⟩ : ∃ W, Hid (W = wr.alloc (.cells #[.int .i64 x.k, .int .i64 x.n, .string x.s] 40)) := ⟨_, rfl⟩
      have b0 : W.cell? ⟨wr.heap.size, 0, none⟩ = some (.int .i64 x.k) := by rw [unhide hW]; simp [go_sem]
      have b1 : W.cell? ⟨wr.heap.size, 1, none⟩ = some (.int .i64 x.n) := by rw [unhide hW]; simp [go_sem]
      have b2 : W.cell? ⟨wr.heap.size, 2, none⟩ = some (.string x.s) := by rw [unhide hW]; simp [go_sem]
      rw [← unhide hW] at d0 d1 d2 HB1 ⊢
      clear hW c0 c1 c2 HCELL
      rcases Bool.eq_false_or_eq_true (x.k == z.k) with e1 | e1
      · rcases Bool.eq_false_or_eq_true (x.n == z.n) with e2 | e2
        · rcases Bool.eq_false_or_eq_true (x.s.toList == z.s.toList) with e3 | e3
          · have HSM : Hid (sameB x z = true) := by show _ = _; simp only [sameB, e1, e2, e3, Bool.and_self]
            go_quiet (fail)
            go_wp2
            go_roundw
            case rel =>
              refine ⟨k + 1, by omega, by go_num, fun i y hi hy => ?_, below_drewN (unhide HB1) _⟩
              by_cases h : i < k
              · exact unhide HS i y h hy
              · have : i = k := by omega
                subst this
                rw [unhide HX] at hy
                injection hy with hy
                rw [← hy, unhide HH]
                exact unhide HSM
            case measure => first | (simp [intOf]; done) | (simp only [intOf]; omega)
          · have HSM : Hid (R = k) := by show _ = _; exact unhide HL k (unhide HS) hk (fun y hy => by rw [unhide HX] at hy; injection hy with hy; rw [← hy, unhide HH]; simp only [sameB, e1, e2, e3, Bool.and_false])
            go_quiet (fail)
            go_wp2
            go_ret
            exact ⟨by rw [unhide HSM]; rfl, below_drewN (unhide HB1) _⟩
        · have HSM : Hid (R = k) := by show _ = _; exact unhide HL k (unhide HS) hk (fun y hy => by rw [unhide HX] at hy; injection hy with hy; rw [← hy, unhide HH]; simp only [sameB, e1, e2, Bool.and_false, Bool.false_and])
          go_quiet (fail)
          go_wp2
          go_ret
          exact ⟨by rw [unhide HSM]; rfl, below_drewN (unhide HB1) _⟩
      · have HSM : Hid (R = k) := by show _ = _; exact unhide HL k (unhide HS) hk (fun y hy => by rw [unhide HX] at hy; injection hy with hy; rw [← hy, unhide HH]; simp only [sameB, e1, Bool.false_and])
        go_quiet (fail)
        go_wp2
        go_ret
        exact ⟨by rw [unhide HSM]; rfl, below_drewN (unhide HB1) _⟩
    · have h9 : ¬ (k : Int) < (xs.length : Int) := by omega
      have hk8 : k = xs.length := by omega
      have HSM : Hid (R = xs.length) := by show _ = _; rw [← hk8]; exact unhide HL k (unhide HS) hk (fun y hy => by rw [List.getElem?_eq_none (by omega)] at hy; cases hy)
      have HB := hide hb
      clear hb hk8
      go_wp2
      go_ret
      exact ⟨by rw [unhide HSM]; rfl, unhide HB⟩
end Go.Proofs.Ytihkflcdphebmab
