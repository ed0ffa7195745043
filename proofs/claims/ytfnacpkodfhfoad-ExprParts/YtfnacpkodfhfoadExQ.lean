import Derived.Test.YtfnacpkodfhfoadExP
set_option linter.unusedSimpArgs false
set_option linter.unusedVariables false
namespace Go.Proofs.Ytfnacpkodfhfoad
open Go.RowKit Go.Sort

/-- What can come up at a place of the lattice, and where it leads. -/
def stOk (md : Region.Mode) (ops : Array Oper) (lst : Nat → Bool → Bool → Bool → Array Bool) (fu : Nat → Bool → Bool → Bool → Nat) (cl : Nat → Nat) (al0 al1 al2 : Nat) (d : Nat) (b0 b1 b2 : Bool) : Bool :=
  !(Region.ready md ops (lst d b0 b1 b2)).isEmpty && (Region.ready md ops (lst d b0 b1 b2)).all fun i =>
    (decide (d < 3) && i == cl d && (lst d b0 b1 b2).setIfInBounds i true == lst (d + 1) b0 b1 b2 && fu d b0 b1 b2 == fu (d + 1) b0 b1 b2 + 1) ||
    (!b0 && i == al0 && (lst d b0 b1 b2).setIfInBounds i true == lst d true b1 b2 && fu d b0 b1 b2 == fu d true b1 b2 + 1) ||
    (!b1 && i == al1 && (lst d b0 b1 b2).setIfInBounds i true == lst d b0 true b2 && fu d b0 b1 b2 == fu d b0 true b2 + 1) ||
    (!b2 && i == al2 && (lst d b0 b1 b2).setIfInBounds i true == lst d b0 b1 true && fu d b0 b1 b2 == fu d b0 b1 true + 1)
theorem lat_any {ops : Array Oper} {Q : Exit → Act → World → Prop} {md : Region.Mode} {S : World → Prop} {k : Nat} {R0 R1 R2 : Nat → List Nat → World → Value → Prop} (g0 : Goes R0) (g1 : Goes R1) (g2 : Goes R2) (u : Bool) (lo : Nat) (wa : World) (d0 : Nat)
    (tm : Value → Value → Value → Value → Value → Value → Array Value) (lst : Nat → Bool → Bool → Bool → Array Bool) (fu : Nat → Bool → Bool → Bool → Nat) (cl : Nat → Nat) (al0 al1 al2 : Nat) (y0 y1 y2 : TypeId)
    (hS : ∀ w', Below wa.heap.size wa w' → S w')
    (ok : ∀ d b0 b1 b2, d0 ≤ d → d ≤ 3 → (u || b2) = true → (d == 3 && b0 && b1 && b2) = false → stOk md ops lst fu cl al0 al1 al2 d b0 b1 b2 = true)
    (c0 : d0 = 0 → ∀ t0 t1 t2 p0 p1 p2 w' K, Below wa.heap.size wa w' → (∀ F w'', Below w'.heap.size w' w'' → R0 w'.heap.size [] w'' F → K ⟨tm F t1 t2 p0 p1 p2, []⟩ w'') → wpOp Try.prog ops Q (cl 0) K ⟨tm t0 t1 t2 p0 p1 p2, []⟩ w')
    (c1 : ∀ t0 t1 t2 p0 p1 p2 w' K, Below wa.heap.size wa w' → (∀ F w'', Below w'.heap.size w' w'' → R1 w'.heap.size [] w'' F → K ⟨tm t0 F t2 p0 p1 p2, []⟩ w'') → wpOp Try.prog ops Q (cl 1) K ⟨tm t0 t1 t2 p0 p1 p2, []⟩ w')
    (c2 : ∀ t0 t1 t2 p0 p1 p2 w' K, Below wa.heap.size wa w' → (∀ F w'', Below w'.heap.size w' w'' → R2 w'.heap.size [] w'' F → K ⟨tm t0 t1 F p0 p1 p2, []⟩ w'') → wpOp Try.prog ops Q (cl 2) K ⟨tm t0 t1 t2 p0 p1 p2, []⟩ w')
    (a0 : ∀ t0 t1 t2 p0 p1 p2 w' K, K ⟨tm t0 t1 t2 (.pointer (some ⟨w'.heap.size, 0, none⟩)) p1 p2, []⟩ (w'.alloc (.cells #[.nilFunc] y0)) → wpOp Try.prog ops Q al0 K ⟨tm t0 t1 t2 p0 p1 p2, []⟩ w')
    (a1 : ∀ t0 t1 t2 p0 p1 p2 w' K, K ⟨tm t0 t1 t2 p0 (.pointer (some ⟨w'.heap.size, 0, none⟩)) p2, []⟩ (w'.alloc (.cells #[.nilFunc] y1)) → wpOp Try.prog ops Q al1 K ⟨tm t0 t1 t2 p0 p1 p2, []⟩ w')
    (a2 : u = true → ∀ t0 t1 t2 p0 p1 p2 w' K, K ⟨tm t0 t1 t2 p0 p1 (.pointer (some ⟨w'.heap.size, 0, none⟩)), []⟩ (w'.alloc (.cells #[.nilFunc] y2)) → wpOp Try.prog ops Q al2 K ⟨tm t0 t1 t2 p0 p1 p2, []⟩ w')
    (fin : ∀ t0 t1 t2 p0 p1 p2 N w', Lat R0 R1 R2 u lo wa 3 true true true t0 t1 t2 p0 p1 p2 N w' → anyG Try.prog md ops Q S k (fu 3 true true true) (lst 3 true true true) ⟨tm t0 t1 t2 p0 p1 p2, []⟩ w')
    {d : Nat} {b0 b1 b2 : Bool} {t0 t1 t2 p0 p1 p2 : Value} {N : List Nat} {w : World} (hd0 : d0 ≤ d) (hd : d ≤ 3) (hu : (u || b2) = true) (h : Lat R0 R1 R2 u lo wa d b0 b1 b2 t0 t1 t2 p0 p1 p2 N w)
    {f : Nat} {L : Array Bool} {a : Act} (hf : f = fu d b0 b1 b2) (hL : L = lst d b0 b1 b2) (ha : a = ⟨tm t0 t1 t2 p0 p1 p2, []⟩) :
    anyG Try.prog md ops Q S k f L a w := by
  refine anyG_lat (fun f L a w => ∃ d b0 b1 b2 t0 t1 t2 p0 p1 p2 N, d0 ≤ d ∧ d ≤ 3 ∧ (u || b2) = true ∧ f = fu d b0 b1 b2 ∧ L = lst d b0 b1 b2 ∧ a = ⟨tm t0 t1 t2 p0 p1 p2, []⟩ ∧ Lat R0 R1 R2 u lo wa d b0 b1 b2 t0 t1 t2 p0 p1 p2 N w) ?_ f L a w ⟨d, b0, b1, b2, t0, t1, t2, p0, p1, p2, N, hd0, hd, hu, hf, hL, ha, h⟩
  clear hd0 hd hu h hf hL ha
  rintro f L a w ⟨d, b0, b1, b2, t0, t1, t2, p0, p1, p2, N, hd0, hd, hu, rfl, rfl, rfl, h⟩
  cases he : (d == 3 && b0 && b1 && b2) with
  | true =>
    simp only [Bool.and_eq_true, beq_iff_eq] at he
    obtain ⟨⟨⟨rfl, rfl⟩, rfl⟩, rfl⟩ := he
    exact .inl (fin _ _ _ _ _ _ _ _ h)
  | false =>
    right
    have hk := ok d b0 b1 b2 hd0 hd hu he
    unfold stOk at hk
    rw [Bool.and_eq_true, List.all_eq_true] at hk
    obtain ⟨hne, hall⟩ := hk
    have hpos : ∃ f', fu d b0 b1 b2 = f' + 1 := by
      match hr : Region.ready md ops (lst d b0 b1 b2), hne, hall with
      | [], hne, _ => simp at hne
      | i :: l, _, hall =>
        have := hall i List.mem_cons_self
        simp only [Bool.or_eq_true, Bool.and_eq_true, beq_iff_eq] at this
        rcases this with ((h | h) | h) | h <;> exact ⟨_, h.2⟩
    obtain ⟨f', hf'⟩ := hpos
    refine ⟨f', hf', fun e => ?_, fun i hi => ?_⟩
    · rw [e] at hne; simp at hne
    have := hall i hi
    simp only [Bool.or_eq_true, Bool.and_eq_true, beq_iff_eq, decide_eq_true_eq, Bool.not_eq_true'] at this
    rcases this with ((⟨⟨⟨h1, h2⟩, h3⟩, h4⟩ | ⟨⟨⟨h1, h2⟩, h3⟩, h4⟩) | ⟨⟨⟨h1, h2⟩, h3⟩, h4⟩) | ⟨⟨⟨h1, h2⟩, h3⟩, h4⟩
    · rw [h3]
      subst h2
      have hff : f' = fu (d + 1) b0 b1 b2 := by omega
      have hcase : d = 0 ∨ d = 1 ∨ d = 2 := by omega
      rcases hcase with hz | hz | hz <;> subst hz
      · refine c0 (by omega) _ _ _ _ _ _ _ _ h.bel fun F w'' hb hF => ?_
        have h' := h.call g0 g1 g2 hb (t0' := F) (t1' := t1) (t2' := t2) (fun h => absurd rfl h) (fun _ => rfl) (fun _ => rfl) (fun _ => hF) (fun h => absurd h (by decide)) (fun h => absurd h (by decide))
        exact ⟨hS _ h'.bel, 1, b0, b1, b2, F, t1, t2, p0, p1, p2, N, by omega, by decide, hu, hff, rfl, rfl, h'⟩
      · refine c1 _ _ _ _ _ _ _ _ h.bel fun F w'' hb hF => ?_
        have h' := h.call g0 g1 g2 hb (t0' := t0) (t1' := F) (t2' := t2) (fun _ => rfl) (fun h => absurd rfl h) (fun _ => rfl) (fun h => absurd h (by decide)) (fun _ => hF) (fun h => absurd h (by decide))
        exact ⟨hS _ h'.bel, 2, b0, b1, b2, t0, F, t2, p0, p1, p2, N, by omega, by decide, hu, hff, rfl, rfl, h'⟩
      · refine c2 _ _ _ _ _ _ _ _ h.bel fun F w'' hb hF => ?_
        have h' := h.call g0 g1 g2 hb (t0' := t0) (t1' := t1) (t2' := F) (fun _ => rfl) (fun _ => rfl) (fun h => absurd rfl h) (fun h => absurd h (by decide)) (fun h => absurd h (by decide)) (fun _ => hF)
        exact ⟨hS _ h'.bel, 3, b0, b1, b2, t0, t1, F, p0, p1, p2, N, by omega, by decide, hu, hff, rfl, rfl, h'⟩
    · rw [h3]
      subst h1 h2
      have h' := h.alloc0 g0 g1 g2 y0
      exact a0 _ _ _ _ _ _ _ _ ⟨hS _ h'.bel, d, true, b1, b2, _, _, _, _, _, _, _, hd0, hd, hu, by omega, rfl, rfl, h'⟩
    · rw [h3]
      subst h1 h2
      have h' := h.alloc1 g0 g1 g2 y1
      exact a1 _ _ _ _ _ _ _ _ ⟨hS _ h'.bel, d, b0, true, b2, _, _, _, _, _, _, _, hd0, hd, hu, by omega, rfl, rfl, h'⟩
    · rw [h3]
      subst h1 h2
      have h' := h.alloc2 g0 g1 g2 y2
      exact a2 (by simpa using hu) _ _ _ _ _ _ _ _ ⟨hS _ h'.bel, d, b0, b1, true, _, _, _, _, _, _, _, hd0, hd, by simp, by omega, rfl, rfl, h'⟩
end Go.Proofs.Ytfnacpkodfhfoad
