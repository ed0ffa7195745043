import Derived.Test.YtgmfbjehdcdioaaOjF
set_option linter.unusedSimpArgs false
set_option linter.unusedVariables false
set_option maxRecDepth 100000
namespace Go.Proofs.Ytgmfbjehdcdioaa
open Go.RowKit Go.Sort

theorem sk_empty {w : World} {b k : Nat} {F : Ft} (h : SkO w b k F []) : SkF w b k (tot ([] : List (Vk × Nat))) F [] 0 ∧ F.n = 0 := by
  obtain ⟨⟨fl, L, hO, hL, hn⟩, _⟩ := h
  have h0 : fl = 0 := by have := hL.fl_le; simp [tot] at this; exact this
  subst h0
  have hn0 : F.n = 0 := by
    cases hF : F.n with
    | zero => rfl
    | succ m =>
      have hm := cts_mem (E := F.E) (n := F.n) (i := 0) (by omega)
      have h1 := hL.pos _ hm
      have h2 := hL.low _ hm
      simp [cnt] at h2
      omega
  exact ⟨⟨L, hO, hL, hn⟩, hn0⟩

/-- append([]Found{}, a...). -/
theorem copy_any {W : World} {S : Value} {ys : List Cn} {base : Nat} (ho : OwnF W base S ys) (hl : ys.length ≤ 1048576) (a : Option Addr) (c : Nat) (hS : S = .slice a ys.length c) :
    ∃ T w', (Builtin.append_ #[42, 42] 42 #[.slice (some ⟨W.heap.size, 0, none⟩) 0 0, .slice a ys.length c]).run Try.prog (W.alloc (.cells #[] 47)) = .ok T w' ∧ OwnF w' W.heap.size T ys ∧ Below W.heap.size W w' := by
  obtain ⟨i2, hi2, z20, z21, z22⟩ := info_parts Try.info47
  have hE : (W.alloc (.cells #[] 47)).ownsRow W.heap.size 47 5 (.slice (some ⟨W.heap.size, 0, none⟩) 0 0) 0 [] :=
    ⟨rfl, .inr ⟨W.heap.size, 0, #[], rfl, Nat.le_refl _, by show (W.heap.push _)[W.heap.size]? = _; rw [Array.getElem?_push_size], Nat.le_refl _, Nat.zero_le _, rfl, rfl⟩⟩
  have hb : Below W.heap.size W (W.alloc (.cells #[] 47)) := below_alloc (Below.refl _ _) _
  subst hS
  cases a with
  | none =>
    have hy : ys = [] := by
      rcases ho.2 with ⟨_, h0⟩ | ⟨g, cap, cur, e, _⟩
      · exact List.eq_nil_of_length_eq_zero h0
      · cases e
    subst hy
    have hc : c = 0 := by
      rcases ho.2 with ⟨e, _⟩ | ⟨g, cap, cur, e, _⟩
      · injection e
      · cases e
    subst hc
    refine ⟨_, _, run_append_owned_none (P := Try.prog) _ W.heap.size 42 42 47 i2 5 Try.underlying42 hi2 _ 0 [] hE, hE, hb⟩
  | some ad =>
    obtain ⟨g, rfl⟩ : ∃ g, ad = ⟨g, 0, none⟩ := by
      rcases ho.2 with ⟨e, _⟩ | ⟨g, cap, cur, e, _⟩
      · cases e
      · injection e with e1 _ _; injection e1 with e1; exact ⟨g, e1⟩
    have hoA := own_later ho hb
    have hcells := hoA.cells (g := g) rfl
    obtain ⟨T, w', hr, h2, h3, _, h5⟩ := run_append_own_at (P := Try.prog) (w := W.alloc (.cells #[] 47)) W.heap.size 42 42 47 i2 (.agg #[.int .i64 0, .int .i64 0, .string ⟨#[]⟩, .int .i64 0, .int .i64 0]) 5 48 Try.underlying42 hi2 z20 z21 z22 rfl (by decide) _ 0 [] hE ⟨g, 0, none⟩ ys.length c (ys.flatMap c5) (c5_len ys) hcells (fun u hu => by obtain ⟨y, _, hu⟩ := List.mem_flatMap.1 hu; exact c5_one y u hu) (by unfold maxLen; omega) (by omega) hb.size
    rw [Nat.zero_add, List.nil_append] at h2
    refine ⟨T, w', hr, h2, grown_below hb h3 fun z hz => ?_⟩
    simp [Value.ownBlock] at hz
    omega

/-- What becomes of one sketch by Add. -/
def AddR (k fl : Nat) (F : Ft) (xs : List (Vk × Nat)) (x : Vk) (N : Int) (F' : Ft) (fl' : Nat) (xs' : List (Vk × Nat)) : Prop :=
  ((N < 0 ∨ 4611686018427387904 - (tot xs : Int) < N) ∧ F' = F ∧ fl' = fl ∧ xs' = xs) ∨ (0 ≤ N ∧ N ≤ 4611686018427387904 - (tot xs : Int) ∧ xs' = xs ++ [(cleanK x, N.toNat)] ∧ ((N = 0 ∧ F' = F ∧ fl' = fl) ∨ (0 < N ∧ DetR k fl (tolds F.E F.n) (cleanK x) N.toNat fl' (tolds F'.E F'.n))))
/-- The number that Add answers. -/
def erN (N : Int) (T : Nat) : Int := if N < 0 then 1 else if 4611686018427387904 - (T : Int) < N then 3 else 0
theorem Sm.add {w0 W : World} {k : Nat} {bx : Nat → Nat} {F : Nat → Ft} {XS : Nat → List (Vk × Nat)} {FL : Nat → Nat} {pr : Nat → Prop} (h : Sm w0 W k bx F XS FL pr) (hk : k ≤ 1024) {p : Nat} (hp : p < 3) (x : Vk) (N : Int) :
    Calls Try.prog 8 #[.pointer (some ⟨bx p, 0, none⟩), .agg #[.int .i64 x.k, .int .i64 x.n, .string x.s], .int .i64 N] W fun e w' => e = .returned (.int .i64 (erN N (tot (XS p)))) ∧ ∃ F' X' fl', Sm w0 w' k bx (up F p F') (up XS p X') (up FL p fl') pr ∧ (∀ z, pr z → w'.heap[z]? = W.heap[z]?) ∧ AddR k (FL p) (F p) (XS p) x N F' fl' X' := by
  refine (add_det (h.sk p hp) hk x N).mono ?_
  have hsame : ∀ w', Below W.heap.size W w' → ∃ F' X' fl', Sm w0 w' k bx (up F p F') (up XS p X') (up FL p fl') pr ∧ (∀ z, pr z → w'.heap[z]? = W.heap[z]?) ∧ F' = F p ∧ X' = XS p ∧ fl' = FL p := fun w' hb => by
    have h1 := h.op hp (w' := w') (F' := F p) (X' := XS p) (fl' := FL p) ⟨(h.sk p hp).1.later hb, (h.sk p hp).2⟩ (Ky.of_below hb) fun z hz => .inl hz
    exact ⟨F p, XS p, FL p, h1.1, h1.2, rfl, rfl, rfl⟩
  rintro e w' (⟨h1, rfl, h2⟩ | ⟨h1, h3, rfl, h2⟩ | ⟨h1, h3, rfl, F', fl', h4, h5, h6⟩)
  · obtain ⟨F', X', fl', q1, q2, rfl, rfl, rfl⟩ := hsame w' h2
    refine ⟨by unfold erN; rw [if_pos h1], _, _, _, q1, q2, .inl ⟨.inl h1, rfl, rfl, rfl⟩⟩
  · obtain ⟨F', X', fl', q1, q2, rfl, rfl, rfl⟩ := hsame w' h2
    refine ⟨by unfold erN; rw [if_neg (by omega), if_pos h3], _, _, _, q1, q2, .inl ⟨.inr h3, rfl, rfl, rfl⟩⟩
  · have q := h.op hp h4 h5.1 h5.2
    refine ⟨by unfold erN; rw [if_neg (by omega), if_neg (by omega)], F', _, fl', q.1, q.2, .inr ⟨h1, h3, rfl, h6⟩⟩
/-- Both have been told the same. -/
theorem Tw.both {w0 w w1 w2 : World} {k : Nat} {bx : Nat → Nat} {F : Nat → Ft} {XS : Nat → List (Vk × Nat)} {FL : Nat → Nat} {pr : Nat → Prop} (h : Tw w0 w k bx F XS FL pr) {x : Vk} {N : Int} {F0 F1 : Ft} {X0 X1 : List (Vk × Nat)} {f0 f1 : Nat}
    (a0 : AddR k (FL 0) (F 0) (XS 0) x N F0 f0 X0) (a1 : AddR k (FL 1) (F 1) (XS 1) x N F1 f1 X1) (hs : Sm w0 w2 k bx (up (up F 0 F0) 1 F1) (up (up XS 0 X0) 1 X1) (up (up FL 0 f0) 1 f1) pr) :
    Tw w0 w2 k bx (up (up F 0 F0) 1 F1) (up (up XS 0 X0) 1 X1) (up (up FL 0 f0) 1 f1) pr := by
  have e0 : ∀ {β : Type} (f : Nat → β) (u v : β), up (up f 0 u) 1 v 0 = u := fun f u v => by rw [up_ne (by decide), up_same]
  have e1 : ∀ {β : Type} (f : Nat → β) (u v : β), up (up f 0 u) 1 v 1 = v := fun f u v => up_same _ _ _
  have hxs := h.xs
  have hfl := h.fl
  have hnd : ((tolds (F 0).E (F 0).n).map (·.key)).Nodup := by
    obtain ⟨L, hO, hL, _⟩ := (h.sm.sk 0 (by decide)).1
    have h1 := hL.once
    have e : (cts (F 0).E (F 0).n).map (·.v) = (tolds (F 0).E (F 0).n).map (·.key) := by unfold cts tolds; rw [List.map_map, List.map_map]; rfl
    rw [e] at h1
    exact h1
  refine ⟨hs, ?_, ?_, ?_, ?_⟩
  · rw [e0, e1]
    rcases a0 with ⟨c0, _, _, rfl⟩ | ⟨c0, d0, rfl, _⟩
    · rcases a1 with ⟨_, _, _, rfl⟩ | ⟨c1, d1, _, _⟩
      · exact hxs
      · rw [← hxs] at d1; omega
    · rcases a1 with ⟨c1, _, _, _⟩ | ⟨_, _, rfl, _⟩
      · rw [← hxs] at c1; omega
      · rw [hxs]
  · rw [e0, e1]
    rcases a0 with ⟨c0, _, rfl, _⟩ | ⟨c0, d0, _, g0⟩
    · rcases a1 with ⟨_, _, rfl, _⟩ | ⟨c1, d1, _, _⟩
      · exact hfl
      · rw [← hxs] at d1; omega
    · rcases a1 with ⟨c1, _, _, _⟩ | ⟨_, _, _, g1⟩
      · rw [← hxs] at c1; omega
      · rcases g0 with ⟨n0, _, rfl⟩ | ⟨n0, g0⟩
        · rcases g1 with ⟨_, _, rfl⟩ | ⟨n1, _⟩
          · exact hfl
          · omega
        · rcases g1 with ⟨n1, _, _⟩ | ⟨_, g1⟩
          · omega
          · rw [← hfl] at g1
            exact (det_same h.pe hnd g0 g1).1
  · rw [e0, e1]
    rcases a0 with ⟨c0, rfl, _, _⟩ | ⟨c0, d0, _, g0⟩
    · rcases a1 with ⟨_, rfl, _, _⟩ | ⟨c1, d1, _, _⟩
      · exact h.pe
      · rw [← hxs] at d1; omega
    · rcases a1 with ⟨c1, _, _, _⟩ | ⟨_, _, _, g1⟩
      · rw [← hxs] at c1; omega
      · rcases g0 with ⟨n0, rfl, _⟩ | ⟨n0, g0⟩
        · rcases g1 with ⟨_, rfl, _⟩ | ⟨n1, _⟩
          · exact h.pe
          · omega
        · rcases g1 with ⟨n1, _, _⟩ | ⟨_, g1⟩
          · omega
          · rw [← hfl] at g1
            exact (det_same h.pe hnd g0 g1).2
  · rw [e0]
    rcases a0 with ⟨_, _, _, rfl⟩ | ⟨_, _, rfl, _⟩
    · exact h.cl
    · intro q hq
      rcases List.mem_append.1 hq with hq | hq
      · exact h.cl q hq
      · simp at hq; rw [hq]; exact clean_clean _
/-- The third one has changed alone. -/
theorem Tw.third {w0 w w' : World} {k : Nat} {bx : Nat → Nat} {F : Nat → Ft} {XS : Nat → List (Vk × Nat)} {FL : Nat → Nat} {pr : Nat → Prop} (h : Tw w0 w k bx F XS FL pr) {F2 : Ft} {X2 : List (Vk × Nat)} {f2 : Nat} (hs : Sm w0 w' k bx (up F 2 F2) (up XS 2 X2) (up FL 2 f2) pr) : Tw w0 w' k bx (up F 2 F2) (up XS 2 X2) (up FL 2 f2) pr := by
  have n0 : (0 : Nat) ≠ 2 := by decide
  have n1 : (1 : Nat) ≠ 2 := by decide
  refine ⟨hs, ?_, ?_, ?_, ?_⟩
  · rw [up_ne n0, up_ne n1]; exact h.xs
  · rw [up_ne n0, up_ne n1]; exact h.fl
  · rw [up_ne n0, up_ne n1]; exact h.pe
  · rw [up_ne n0]; exact h.cl
theorem Tw.later {w0 w w' : World} {k : Nat} {bx : Nat → Nat} {F : Nat → Ft} {XS : Nat → List (Vk × Nat)} {FL : Nat → Nat} {pr : Nat → Prop} (h : Tw w0 w k bx F XS FL pr) (hb : Below w.heap.size w w') : Tw w0 w' k bx F XS FL pr := ⟨h.sm.later hb, h.xs, h.fl, h.pe, h.cl⟩
/-- All of one of them. -/
theorem Sm.all {w0 W : World} {k : Nat} {bx : Nat → Nat} {F : Nat → Ft} {XS : Nat → List (Vk × Nat)} {FL : Nat → Nat} {pr : Nat → Prop} (h : Sm w0 W k bx F XS FL pr) (hk : k ≤ 1024) {p : Nat} (hp : p < 3) :
    Calls Try.prog 11 #[.pointer (some ⟨bx p, 0, none⟩)] W fun e w' => ∃ S ys, e = .returned S ∧ AlA W w' S (F p).n (F p).E ys := by
  obtain ⟨L, hO, _, hn⟩ := (h.sk p hp).1
  exact all_any hO (by omega)
theorem Sm.tot {w0 W : World} {k : Nat} {bx : Nat → Nat} {F : Nat → Ft} {XS : Nat → List (Vk × Nat)} {FL : Nat → Nat} {pr : Nat → Prop} (h : Sm w0 W k bx F XS FL pr) {p : Nat} (hp : p < 3) :
    Calls Try.prog 12 #[.pointer (some ⟨bx p, 0, none⟩)] W fun e w' => e = .returned (.int .i64 (tot (XS p))) ∧ w' = W := by
  obtain ⟨L, hO, _⟩ := (h.sk p hp).1
  exact total_any hO
end Go.Proofs.Ytgmfbjehdcdioaa
