import Derived.Test.YtmagpdblacgneaaGreatExK
import Derived.Laws.EntriesVeiled
set_option linter.unusedSimpArgs false
set_option linter.unusedVariables false
namespace Go.Proofs.YtmagpdblacgneaaGreat
open Go.RowKit Go.Sort

/-! A chain of calls and allocs that are free of it, in any order: a lattice. -/
theorem anyG_lat {P : Program} {ops : Array Oper} {Q : Exit → Act → World → Prop} {md : Region.Mode} {S : World → Prop} {k : Nat} (J : Nat → Array Bool → Act → World → Prop)
    (h : ∀ f L a w, J f L a w → anyG P md ops Q S k f L a w ∨ ∃ f', f = f' + 1 ∧ Region.ready md ops L ≠ [] ∧ ∀ i ∈ Region.ready md ops L, wpOp P ops Q i (fun a' w' => S w' ∧ J f' (L.setIfInBounds i true) a' w') a w) :
    ∀ f L a w, J f L a w → anyG P md ops Q S k f L a w
  | 0, L, a, w, hJ => by
    rcases h 0 L a w hJ with h | ⟨f', h1, _⟩
    · exact h
    · omega
  | f + 1, L, a, w, hJ => by
    rcases h (f + 1) L a w hJ with h1 | ⟨f', h1, h2, h3⟩
    · exact h1
    · have : f' = f := by omega
      subst this
      exact anyG_many _ rfl h2 fun i hi => wpOp_mono (fun a' w' h' => ⟨fun _ => h'.1, anyG_lat J h f' _ a' w' h'.2⟩) (h3 i hi)
/-- What is said of a value goes on. -/
structure Goes (R : Nat → List Nat → World → Value → Prop) : Prop where
  on : ∀ {lo N w w' v}, R lo N w v → Kept lo N w w' → R lo N w' v
  more : ∀ {lo lo' : Nat} {N N' : List Nat} {w : World} {v : Value}, R lo N w v → lo' ≤ lo → (∀ b ∈ N', b ∈ N ∨ b < lo ∨ w.heap.size ≤ b) → R lo' N' w v
theorem goes_work (x : Ex) : Goes (fun lo N w v => WorkK lo N w v x) := ⟨fun h hk => h.on hk, fun h a b => h.more a b⟩
theorem goes_fun2 (g : Val → Val → Val) : Goes (fun lo N w v => Fun2K lo N w v g) := ⟨fun h hk => h.on hk, fun h a b => h.more a b⟩
theorem goes_fun1 (g : Val → Val) : Goes (fun _ _ _ v => ∀ W, Fun1 W v g) := ⟨fun h _ => h, fun h _ _ => h⟩
theorem goes_true : Goes (fun _ _ _ _ => True) := ⟨fun h _ => h, fun h _ _ => h⟩
def PtrAt (w : World) (N : List Nat) (p : Value) : Prop := ∃ B ∈ N, p = .pointer (some ⟨B, 0, none⟩) ∧ Box1 w B .nilFunc ∧ w.frozen? ⟨B, 0, none⟩ = false
structure Lat (R0 R1 R2 : Nat → List Nat → World → Value → Prop) (u : Bool) (lo : Nat) (wa : World) (d : Nat) (b0 b1 b2 : Bool) (t0 t1 t2 p0 p1 p2 : Value) (N : List Nat) (w : World) : Prop where
  bel : Below wa.heap.size wa w
  low : lo ≤ wa.heap.size
  new : ∀ b ∈ N, wa.heap.size ≤ b ∧ b < w.heap.size
  r0 : 1 ≤ d → R0 lo N w t0
  r1 : 2 ≤ d → R1 lo N w t1
  r2 : 3 ≤ d → R2 lo N w t2
  q0 : b0 = true → PtrAt w N p0
  q1 : b1 = true → PtrAt w N p1
  q2 : b2 = true → u = true → PtrAt w N p2
  n01 : b0 = true → b1 = true → p0 ≠ p1
  n02 : b0 = true → b2 = true → u = true → p0 ≠ p2
  n12 : b1 = true → b2 = true → u = true → p1 ≠ p2
section
variable {R0 R1 R2 : Nat → List Nat → World → Value → Prop} {u : Bool} {lo : Nat} {wa : World} {d : Nat} {b0 b1 b2 : Bool} {t0 t1 t2 p0 p1 p2 : Value} {N : List Nat} {w w' : World}
theorem PtrAt.later {p : Value} (h : PtrAt w N p) (hb : Below w.heap.size w w') : PtrAt w' N p := by
  obtain ⟨B, h1, h2, h3, h4⟩ := h
  exact ⟨B, h1, h2, h3.later hb, by rw [(bcell hb).2 _ _ (World.block_lt_of_cell? w _ h3)]; exact h4⟩
theorem PtrAt.cons {p : Value} (B : Nat) (h : PtrAt w N p) : PtrAt w (B :: N) p := by
  obtain ⟨C, h1, h2, h3⟩ := h
  exact ⟨C, List.mem_cons_of_mem _ h1, h2, h3⟩
theorem PtrAt.ne {p : Value} (h : PtrAt w N p) (hN : ∀ b ∈ N, b < w.heap.size) : p ≠ .pointer (some ⟨w.heap.size, 0, none⟩) := by
  obtain ⟨C, h1, h2, h3⟩ := h
  have := hN C h1
  rw [h2]
  intro he
  injection he with he
  injection he with he
  injection he with he
  omega
/-- A call of the chain. -/
theorem Lat.call (g0 : Goes R0) (g1 : Goes R1) (g2 : Goes R2) (h : Lat R0 R1 R2 u lo wa d b0 b1 b2 t0 t1 t2 p0 p1 p2 N w) (hb : Below w.heap.size w w') {t0' t1' t2' : Value}
    (e0 : d ≠ 0 → t0' = t0) (e1 : d ≠ 1 → t1' = t1) (e2 : d ≠ 2 → t2' = t2) (h0 : d = 0 → R0 w.heap.size [] w' t0') (h1 : d = 1 → R1 w.heap.size [] w' t1') (h2 : d = 2 → R2 w.heap.size [] w' t2') :
    Lat R0 R1 R2 u lo wa (d + 1) b0 b1 b2 t0' t1' t2' p0 p1 p2 N w' := by
  have hl : lo ≤ w.heap.size := Nat.le_trans h.low h.bel.size
  have hN : ∀ b ∈ N, b ∈ ([] : List Nat) ∨ b < w.heap.size ∨ w'.heap.size ≤ b := fun b hb => .inr (.inl (h.new b hb).2)
  have hk := Kept.of_below lo N hb
  refine ⟨below_step h.bel hb, h.low, fun b hb' => ⟨(h.new b hb').1, Nat.lt_of_lt_of_le (h.new b hb').2 hb.size⟩, fun hd => ?_, fun hd => ?_, fun hd => ?_, fun e => (h.q0 e).later hb, fun e => (h.q1 e).later hb, fun e e' => (h.q2 e e').later hb, h.n01, h.n02, h.n12⟩
  · by_cases hz : d = 0
    · exact g0.more (h0 hz) hl hN
    · rw [e0 hz]; exact g0.on (h.r0 (by omega)) hk
  · by_cases hz : d = 1
    · exact g1.more (h1 hz) hl hN
    · rw [e1 hz]; exact g1.on (h.r1 (by omega)) hk
  · by_cases hz : d = 2
    · exact g2.more (h2 hz) hl hN
    · rw [e2 hz]; exact g2.on (h.r2 (by omega)) hk
theorem ptr_new (w : World) (N : List Nat) (t : TypeId) : PtrAt (w.alloc (.cells #[.nilFunc] t)) (w.heap.size :: N) (.pointer (some ⟨w.heap.size, 0, none⟩)) :=
  ⟨_, List.mem_cons_self, rfl, by unfold Box1; simp [go_sem], by simp [go_sem]⟩
/-- An alloc: what goes on. -/
theorem Lat.base (g0 : Goes R0) (g1 : Goes R1) (g2 : Goes R2) (h : Lat R0 R1 R2 u lo wa d b0 b1 b2 t0 t1 t2 p0 p1 p2 N w) (t : TypeId) :
    Lat R0 R1 R2 u lo wa d b0 b1 b2 t0 t1 t2 p0 p1 p2 (w.heap.size :: N) (w.alloc (.cells #[.nilFunc] t)) := by
  have hb := below_alloc (Below.refl _ w) (.cells #[.nilFunc] t)
  have hN : ∀ b ∈ w.heap.size :: N, b ∈ N ∨ b < lo ∨ w.heap.size ≤ b := fun b hb => by
    rcases List.mem_cons.1 hb with h | h
    · exact .inr (.inr (by omega))
    · exact .inl h
  have hk := Kept.of_below lo (w.heap.size :: N) hb
  have hs : w.heap.size < (w.alloc (.cells #[.nilFunc] t)).heap.size := by simp [go_sem]
  refine ⟨below_step h.bel hb, h.low, fun b hb' => ?_, fun hd => g0.on (g0.more (h.r0 hd) (Nat.le_refl _) hN) hk, fun hd => g1.on (g1.more (h.r1 hd) (Nat.le_refl _) hN) hk, fun hd => g2.on (g2.more (h.r2 hd) (Nat.le_refl _) hN) hk, fun e => ((h.q0 e).later hb).cons _, fun e => ((h.q1 e).later hb).cons _, fun e e' => ((h.q2 e e').later hb).cons _, h.n01, h.n02, h.n12⟩
  rcases List.mem_cons.1 hb' with h' | h'
  · rw [h']; exact ⟨h.bel.size, hs⟩
  · exact ⟨(h.new b h').1, Nat.lt_trans (h.new b h').2 hs⟩
theorem Lat.alloc0 (g0 : Goes R0) (g1 : Goes R1) (g2 : Goes R2) (h : Lat R0 R1 R2 u lo wa d false b1 b2 t0 t1 t2 p0 p1 p2 N w) (t : TypeId) :
    Lat R0 R1 R2 u lo wa d true b1 b2 t0 t1 t2 (.pointer (some ⟨w.heap.size, 0, none⟩)) p1 p2 (w.heap.size :: N) (w.alloc (.cells #[.nilFunc] t)) := by
  have hN : ∀ b ∈ N, b < w.heap.size := fun b hb => (h.new b hb).2
  have k := h.base g0 g1 g2 t
  exact ⟨k.bel, k.low, k.new, k.r0, k.r1, k.r2, fun _ => ptr_new w N t, k.q1, k.q2, fun _ e => ((h.q1 e).ne hN).symm, fun _ e e' => ((h.q2 e e').ne hN).symm, k.n12⟩
theorem Lat.alloc1 (g0 : Goes R0) (g1 : Goes R1) (g2 : Goes R2) (h : Lat R0 R1 R2 u lo wa d b0 false b2 t0 t1 t2 p0 p1 p2 N w) (t : TypeId) :
    Lat R0 R1 R2 u lo wa d b0 true b2 t0 t1 t2 p0 (.pointer (some ⟨w.heap.size, 0, none⟩)) p2 (w.heap.size :: N) (w.alloc (.cells #[.nilFunc] t)) := by
  have hN : ∀ b ∈ N, b < w.heap.size := fun b hb => (h.new b hb).2
  have k := h.base g0 g1 g2 t
  exact ⟨k.bel, k.low, k.new, k.r0, k.r1, k.r2, k.q0, fun _ => ptr_new w N t, k.q2, fun e _ => (h.q0 e).ne hN, k.n02, fun _ e e' => ((h.q2 e e').ne hN).symm⟩
theorem Lat.alloc2 (g0 : Goes R0) (g1 : Goes R1) (g2 : Goes R2) (h : Lat R0 R1 R2 u lo wa d b0 b1 false t0 t1 t2 p0 p1 p2 N w) (t : TypeId) :
    Lat R0 R1 R2 u lo wa d b0 b1 true t0 t1 t2 p0 p1 (.pointer (some ⟨w.heap.size, 0, none⟩)) (w.heap.size :: N) (w.alloc (.cells #[.nilFunc] t)) := by
  have hN : ∀ b ∈ N, b < w.heap.size := fun b hb => (h.new b hb).2
  have k := h.base g0 g1 g2 t
  exact ⟨k.bel, k.low, k.new, k.r0, k.r1, k.r2, k.q0, k.q1, fun _ _ => ptr_new w N t, k.n01, fun e _ _ => (h.q0 e).ne hN, fun e _ _ => (h.q1 e).ne hN⟩
end
end Go.Proofs.YtmagpdblacgneaaGreat
set_option linter.unusedSimpArgs false
set_option linter.unusedVariables false
namespace Go.Proofs.YtmagpdblacgneaaGreat
open Go.RowKit Go.Sort

/-- What can come up at a place of the lattice, and where it leads. -/
def stOk (md : Region.Mode) (ops : Array Oper) (lst : Nat → Bool → Bool → Bool → Array Bool) (fu : Nat → Bool → Bool → Bool → Nat) (cl : Nat → Nat) (al0 al1 al2 : Nat) (d : Nat) (b0 b1 b2 : Bool) : Bool :=
  !(Region.ready md ops (lst d b0 b1 b2)).isEmpty && (Region.ready md ops (lst d b0 b1 b2)).all fun i =>
    (decide (d < 3) && i == cl d && (lst d b0 b1 b2).setIfInBounds i true == lst (d + 1) b0 b1 b2 && fu d b0 b1 b2 == fu (d + 1) b0 b1 b2 + 1) ||
    (!b0 && i == al0 && (lst d b0 b1 b2).setIfInBounds i true == lst d true b1 b2 && fu d b0 b1 b2 == fu d true b1 b2 + 1) ||
    (!b1 && i == al1 && (lst d b0 b1 b2).setIfInBounds i true == lst d b0 true b2 && fu d b0 b1 b2 == fu d b0 true b2 + 1) ||
    (!b2 && i == al2 && (lst d b0 b1 b2).setIfInBounds i true == lst d b0 b1 true && fu d b0 b1 b2 == fu d b0 b1 true + 1)
theorem lat_any {ops : Array Oper} {Q : Exit → Act → World → Prop} {md : Region.Mode} {S : World → Prop} {k : Nat} {R0 R1 R2 : Nat → List Nat → World → Value → Prop} (g0 : Goes R0) (g1 : Goes R1) (g2 : Goes R2) (u : Bool) (lo : Nat) (wa : World) (d0 : Nat)
    (tm : Value → Value → Value → Value → Value → Value → Array Value) (lst : Nat → Bool → Bool → Bool → Array Bool) (fu : Nat → Bool → Bool → Bool → Nat) (cl : Nat → Nat) (al0 al1 al2 : Nat) (y0 y1 y2 : TypeId)
    (hS : ∀ w', Below wa.heap.size wa w' → S w')
    (ok : ∀ d b0 b1 b2, d0 ≤ d → d ≤ 3 → (u || b2) = true → (d == 3 && b0 && b1 && b2) = false → stOk md ops lst fu cl al0 al1 al2 d b0 b1 b2 = true)
    (c0 : d0 = 0 → ∀ t0 t1 t2 p0 p1 p2 w' K, Below wa.heap.size wa w' → (∀ F w'', Below w'.heap.size w' w'' → R0 w'.heap.size [] w'' F → K ⟨tm F t1 t2 p0 p1 p2, []⟩ w'') → wpOp Tryz.prog ops Q (cl 0) K ⟨tm t0 t1 t2 p0 p1 p2, []⟩ w')
    (c1 : ∀ t0 t1 t2 p0 p1 p2 w' K, Below wa.heap.size wa w' → (∀ F w'', Below w'.heap.size w' w'' → R1 w'.heap.size [] w'' F → K ⟨tm t0 F t2 p0 p1 p2, []⟩ w'') → wpOp Tryz.prog ops Q (cl 1) K ⟨tm t0 t1 t2 p0 p1 p2, []⟩ w')
    (c2 : ∀ t0 t1 t2 p0 p1 p2 w' K, Below wa.heap.size wa w' → (∀ F w'', Below w'.heap.size w' w'' → R2 w'.heap.size [] w'' F → K ⟨tm t0 t1 F p0 p1 p2, []⟩ w'') → wpOp Tryz.prog ops Q (cl 2) K ⟨tm t0 t1 t2 p0 p1 p2, []⟩ w')
    (a0 : ∀ t0 t1 t2 p0 p1 p2 w' K, K ⟨tm t0 t1 t2 (.pointer (some ⟨w'.heap.size, 0, none⟩)) p1 p2, []⟩ (w'.alloc (.cells #[.nilFunc] y0)) → wpOp Tryz.prog ops Q al0 K ⟨tm t0 t1 t2 p0 p1 p2, []⟩ w')
    (a1 : ∀ t0 t1 t2 p0 p1 p2 w' K, K ⟨tm t0 t1 t2 p0 (.pointer (some ⟨w'.heap.size, 0, none⟩)) p2, []⟩ (w'.alloc (.cells #[.nilFunc] y1)) → wpOp Tryz.prog ops Q al1 K ⟨tm t0 t1 t2 p0 p1 p2, []⟩ w')
    (a2 : u = true → ∀ t0 t1 t2 p0 p1 p2 w' K, K ⟨tm t0 t1 t2 p0 p1 (.pointer (some ⟨w'.heap.size, 0, none⟩)), []⟩ (w'.alloc (.cells #[.nilFunc] y2)) → wpOp Tryz.prog ops Q al2 K ⟨tm t0 t1 t2 p0 p1 p2, []⟩ w')
    (fin : ∀ t0 t1 t2 p0 p1 p2 N w', Lat R0 R1 R2 u lo wa 3 true true true t0 t1 t2 p0 p1 p2 N w' → anyG Tryz.prog md ops Q S k (fu 3 true true true) (lst 3 true true true) ⟨tm t0 t1 t2 p0 p1 p2, []⟩ w')
    {d : Nat} {b0 b1 b2 : Bool} {t0 t1 t2 p0 p1 p2 : Value} {N : List Nat} {w : World} (hd0 : d0 ≤ d) (hd : d ≤ 3) (hu : (u || b2) = true) (h : Lat R0 R1 R2 u lo wa d b0 b1 b2 t0 t1 t2 p0 p1 p2 N w)
    {f : Nat} {L : Array Bool} {a : Act} (hf : f = fu d b0 b1 b2) (hL : L = lst d b0 b1 b2) (ha : a = ⟨tm t0 t1 t2 p0 p1 p2, []⟩) :
    anyG Tryz.prog md ops Q S k f L a w := by
  refine anyG_lat (fun f L a w => ∃ d b0 b1 b2 t0 t1 t2 p0 p1 p2 N, d0 ≤ d ∧ d ≤ 3 ∧ (u || b2) = true ∧ f = fu d b0 b1 b2 ∧ L = lst d b0 b1 b2 ∧ a = ⟨tm t0 t1 t2 p0 p1 p2, []⟩ ∧ Lat R0 R1 R2 u lo wa d b0 b1 b2 t0 t1 t2 p0 p1 p2 N w) ?_ f L a w ⟨d, b0, b1, b2, t0, t1, t2, p0, p1, p2, N, hd0, hd, hu, hf, hL, ha, h⟩
  clear hd0 hd hu h hf hL ha
  rintro f L a w ⟨d, b0, b1, b2, t0, t1, t2, p0, p1, p2, N, hd0, hd, hu, rfl, rfl, rfl, h⟩
  cases he : (d == 3 && b0 && b1 && b2) with
  | true =>
    simp only [Bool.and_eq_true, beq_iff_eq] at he
    obtain ⟨⟨⟨rfl, rfl⟩, rfl⟩, rfl⟩ := he
    exact .inl (fin _ _ _ _ _ _ _ _ h)
  | false =>
    right
    have hk := ok d b0 b1 b2 hd0 hd hu he
    unfold stOk at hk
    rw [Bool.and_eq_true, List.all_eq_true] at hk
    obtain ⟨hne, hall⟩ := hk
    have hpos : ∃ f', fu d b0 b1 b2 = f' + 1 := by
      match hr : Region.ready md ops (lst d b0 b1 b2), hne, hall with
      | [], hne, _ => simp at hne
      | i :: l, _, hall =>
        have := hall i List.mem_cons_self
        simp only [Bool.or_eq_true, Bool.and_eq_true, beq_iff_eq] at this
        rcases this with ((h | h) | h) | h <;> exact ⟨_, h.2⟩
    obtain ⟨f', hf'⟩ := hpos
    refine ⟨f', hf', fun e => ?_, fun i hi => ?_⟩
    · rw [e] at hne; simp at hne
    have := hall i hi
    simp only [Bool.or_eq_true, Bool.and_eq_true, beq_iff_eq, decide_eq_true_eq, Bool.not_eq_true'] at this
    rcases this with ((⟨⟨⟨h1, h2⟩, h3⟩, h4⟩ | ⟨⟨⟨h1, h2⟩, h3⟩, h4⟩) | ⟨⟨⟨h1, h2⟩, h3⟩, h4⟩) | ⟨⟨⟨h1, h2⟩, h3⟩, h4⟩
    · rw [h3]
      subst h2
      have hff : f' = fu (d + 1) b0 b1 b2 := by omega
      have hcase : d = 0 ∨ d = 1 ∨ d = 2 := by omega
      rcases hcase with hz | hz | hz <;> subst hz
      · refine c0 (by omega) _ _ _ _ _ _ _ _ h.bel fun F w'' hb hF => ?_
        have h' := h.call g0 g1 g2 hb (t0' := F) (t1' := t1) (t2' := t2) (fun h => absurd rfl h) (fun _ => rfl) (fun _ => rfl) (fun _ => hF) (fun h => absurd h (by decide)) (fun h => absurd h (by decide))
        exact ⟨hS _ h'.bel, 1, b0, b1, b2, F, t1, t2, p0, p1, p2, N, by omega, by decide, hu, hff, rfl, rfl, h'⟩
      · refine c1 _ _ _ _ _ _ _ _ h.bel fun F w'' hb hF => ?_
        have h' := h.call g0 g1 g2 hb (t0' := t0) (t1' := F) (t2' := t2) (fun _ => rfl) (fun h => absurd rfl h) (fun _ => rfl) (fun h => absurd h (by decide)) (fun _ => hF) (fun h => absurd h (by decide))
        exact ⟨hS _ h'.bel, 2, b0, b1, b2, t0, F, t2, p0, p1, p2, N, by omega, by decide, hu, hff, rfl, rfl, h'⟩
      · refine c2 _ _ _ _ _ _ _ _ h.bel fun F w'' hb hF => ?_
        have h' := h.call g0 g1 g2 hb (t0' := t0) (t1' := t1) (t2' := F) (fun _ => rfl) (fun _ => rfl) (fun h => absurd rfl h) (fun h => absurd h (by decide)) (fun h => absurd h (by decide)) (fun _ => hF)
        exact ⟨hS _ h'.bel, 3, b0, b1, b2, t0, t1, F, p0, p1, p2, N, by omega, by decide, hu, hff, rfl, rfl, h'⟩
    · rw [h3]
      subst h1 h2
      have h' := h.alloc0 g0 g1 g2 y0
      exact a0 _ _ _ _ _ _ _ _ ⟨hS _ h'.bel, d, true, b1, b2, _, _, _, _, _, _, _, hd0, hd, hu, by omega, rfl, rfl, h'⟩
    · rw [h3]
      subst h1 h2
      have h' := h.alloc1 g0 g1 g2 y1
      exact a1 _ _ _ _ _ _ _ _ ⟨hS _ h'.bel, d, b0, true, b2, _, _, _, _, _, _, _, hd0, hd, hu, by omega, rfl, rfl, h'⟩
    · rw [h3]
      subst h1 h2
      have h' := h.alloc2 g0 g1 g2 y2
      exact a2 (by simpa using hu) _ _ _ _ _ _ _ _ ⟨hS _ h'.bel, d, b0, b1, true, _, _, _, _, _, _, _, hd0, hd, by simp, by omega, rfl, rfl, h'⟩
end Go.Proofs.YtmagpdblacgneaaGreat
set_option linter.unusedSimpArgs false
set_option linter.unusedVariables false
namespace Go.Proofs.YtmagpdblacgneaaGreat
open Go.RowKit Go.Sort

set_option maxHeartbeats 1000000 in
set_option maxRecDepth 100000 in
/-- ready (15) where there is one part. -/
theorem ready1 (e x : Ex) (hx : e.args = [x]) (hxf : x.fin) (a : Option Addr) (c : Nat) (w : World) (ha : Ex.all w a e.args)
    (IH : ∀ (a' : Option Addr) (c' : Nat) (W : World), Ex.all W a' x.args → Calls Tryz.prog 45 #[x.val a' c'] W fun r w' => ∃ F, r = .returned F ∧ WorkK W.heap.size [] w' F x ∧ Below W.heap.size W w') :
    Calls Tryz.prog 45 #[e.val a c] w fun r w' => ∃ F, r = .returned F ∧ WorkK w.heap.size [] w' F e ∧ Below w.heap.size w w' := by
  have hmf : ∀ (fn : Fn) (first cap : Array Value) (w : World), (Instr.makeFunc fn first cap).run Tryz.prog w = .ok (.func fn first cap) w := fun _ _ _ _ => rfl
  have hln : e.args.length = 1 := by rw [hx]; rfl
  have hBa := below_alloc (Below.refl _ w) (.cells #[.int .i64 e.op, .int .i64 e.n, .int .i64 e.v.k, .int .i64 e.v.n, .string e.v.s, .slice a 1 c] 26)
  have h6 : Six (w.alloc (.cells #[.int .i64 e.op, .int .i64 e.n, .int .i64 e.v.k, .int .i64 e.v.n, .string e.v.s, .slice a e.args.length c] 26)) w.heap.size e a c := Six.new w e a c
  rw [hln] at h6
  obtain ⟨vb, vo, ea, hx0⟩ := Ex.all_get (i := 0) (e := x) (Ex.all_later _ ha hBa) (by rw [hx]; rfl)
  obtain ⟨a1, cc1, ⟨d0, d1, d2, d3, d4, d5⟩, hal1⟩ := Ex.at_open hx0
  rw [Nat.zero_mul, Nat.add_zero] at d0 d1 d2 d3 d4 d5
  obtain ⟨c0, c1, c2, c3, c4, c5⟩ := h6
  rw [hln] at c5
  subst ea
  rw [Ex.val_open, hln]
  have HEV : Hid (∀ row, evalE row e = oneV e.op (evalE row x)) := fun row => by rw [evalE_eq, hx]; rfl
  clear hx0 ha hx hln
  go_enter Tryz.func45, Tryz.ntmps45
  go_upto_region 5 with fail
  obtain ⟨wa, hwa⟩ : ∃ wa, wa = w.alloc (.cells #[.int .i64 e.op, .int .i64 e.n, .int .i64 e.v.k, .int .i64 e.v.n, .string e.v.s, .slice (some ⟨vb, vo, none⟩) 1 c] 26) := ⟨_, rfl⟩
  rw [← hwa] at hBa hal1 c0 c1 c2 c3 c4 c5 d0 d1 d2 d3 d4 d5 ⊢
  have hszl : w.heap.size ≤ wa.heap.size := hBa.size
  clear hwa
  have HBA := hide hBa
  have HAL := hide hal1
  have HIH := hide IH
  clear hBa hal1 IH
  go_cut [3, 4] (fun p q wx => ∃ B1 B2 F1 F2, p = .pointer (some ⟨B1, 0, none⟩) ∧ q = .pointer (some ⟨B2, 0, none⟩) ∧ Hid (w.heap.size ≤ B1 ∧ w.heap.size ≤ B2 ∧ Box1 wx B1 F1 ∧ Box1 wx B2 F2 ∧ (∀ W, Fun1 W F1 (oneV e.op)) ∧ WorkK w.heap.size [] wx F2 x ∧ Below w.heap.size w wx))
  case first =>
    refine wp_region_noPanic ?_
    refine wp_region_G (S := fun w' : World => Below wa.heap.size wa w') (k := 10) (by kernel_rfl) ?_
    refine anyG_takel (i := 0) (v := (.pointer (some ⟨w.heap.size, 0, none⟩))) [1, 2, 10, 11] rfl (by kernel_rfl) (by kernel_rfl) (by kernel_rfl) (by kernel_rfl) (fun _ _ _ h => h) (Or.inl ⟨by rfl, fun w' hSw => ?_⟩) ((Below.refl _ wa).drew) ?_
    · have e0 := clater c0 hSw; have e5 := clater c5 hSw; have f0 := clater d0 hSw; have f1 := clater d1 hSw; have f2 := clater d2 hSw; have f3 := clater d3 hSw; have f4 := clater d4 hSw; have f5 := clater d5 hSw
      clear c0 c1 c2 c3 c4 c5 d0 d1 d2 d3 d4 d5
      go_simp
    try simp only [Act.put, List.setIfInBounds_toArray, List.set_cons_zero, List.set_cons_succ]
    refine anyG_takel (i := 1) (v := (.int .i64 e.op)) [2, 10, 11] rfl (by kernel_rfl) (by kernel_rfl) (by kernel_rfl) (by kernel_rfl) (fun _ _ _ h => h) (Or.inl ⟨by rfl, fun w' hSw => ?_⟩) ((Below.refl _ wa).drew) ?_
    · have e0 := clater c0 hSw; have e5 := clater c5 hSw; have f0 := clater d0 hSw; have f1 := clater d1 hSw; have f2 := clater d2 hSw; have f3 := clater d3 hSw; have f4 := clater d4 hSw; have f5 := clater d5 hSw
      clear c0 c1 c2 c3 c4 c5 d0 d1 d2 d3 d4 d5
      go_simp
    try simp only [Act.put, List.setIfInBounds_toArray, List.set_cons_zero, List.set_cons_succ]
    refine anyG_takel (i := 3) (v := (.pointer (some ⟨w.heap.size, 5, none⟩))) [4, 5, 6, 7, 10, 11] rfl (by kernel_rfl) (by kernel_rfl) (by kernel_rfl) (by kernel_rfl) (fun _ _ _ h => h) (Or.inl ⟨by rfl, fun w' hSw => ?_⟩) ((Below.refl _ wa).drew) ?_
    · have e0 := clater c0 hSw; have e5 := clater c5 hSw; have f0 := clater d0 hSw; have f1 := clater d1 hSw; have f2 := clater d2 hSw; have f3 := clater d3 hSw; have f4 := clater d4 hSw; have f5 := clater d5 hSw
      clear c0 c1 c2 c3 c4 c5 d0 d1 d2 d3 d4 d5
      go_simp
    try simp only [Act.put, List.setIfInBounds_toArray, List.set_cons_zero, List.set_cons_succ]
    refine anyG_takel (i := 4) (v := (.slice (some ⟨vb, vo, none⟩) 1 c)) [5, 6, 7, 10, 11] rfl (by kernel_rfl) (by kernel_rfl) (by kernel_rfl) (by kernel_rfl) (fun _ _ _ h => h) (Or.inl ⟨by rfl, fun w' hSw => ?_⟩) ((Below.refl _ wa).drew) ?_
    · have e0 := clater c0 hSw; have e5 := clater c5 hSw; have f0 := clater d0 hSw; have f1 := clater d1 hSw; have f2 := clater d2 hSw; have f3 := clater d3 hSw; have f4 := clater d4 hSw; have f5 := clater d5 hSw
      clear c0 c1 c2 c3 c4 c5 d0 d1 d2 d3 d4 d5
      go_simp
    try simp only [Act.put, List.setIfInBounds_toArray, List.set_cons_zero, List.set_cons_succ]
    refine anyG_takel (i := 5) (v := (.pointer (some ⟨vb, vo, none⟩))) [6, 7, 10, 11] rfl (by kernel_rfl) (by kernel_rfl) (by kernel_rfl) (by kernel_rfl) (fun _ _ _ h => h) (Or.inl ⟨by rfl, fun w' hSw => ?_⟩) ((Below.refl _ wa).drew) ?_
    · have e0 := clater c0 hSw; have e5 := clater c5 hSw; have f0 := clater d0 hSw; have f1 := clater d1 hSw; have f2 := clater d2 hSw; have f3 := clater d3 hSw; have f4 := clater d4 hSw; have f5 := clater d5 hSw
      clear c0 c1 c2 c3 c4 c5 d0 d1 d2 d3 d4 d5
      go_simp
    try simp only [Act.put, List.setIfInBounds_toArray, List.set_cons_zero, List.set_cons_succ]
    refine anyG_takel (i := 6) (v := (.agg #[.int .i64 x.op, .int .i64 x.n, .int .i64 x.v.k, .int .i64 x.v.n, .string x.v.s, .slice a1 x.args.length cc1])) [7, 10, 11] rfl (by kernel_rfl) (by kernel_rfl) (by kernel_rfl) (by kernel_rfl) (fun _ _ _ h => h) (Or.inl ⟨by rfl, fun w' hSw => ?_⟩) ((Below.refl _ wa).drew) ?_
    · have e0 := clater c0 hSw; have e5 := clater c5 hSw; have f0 := clater d0 hSw; have f1 := clater d1 hSw; have f2 := clater d2 hSw; have f3 := clater d3 hSw; have f4 := clater d4 hSw; have f5 := clater d5 hSw
      clear c0 c1 c2 c3 c4 c5 d0 d1 d2 d3 d4 d5
      go_simp
    try simp only [Act.put, List.setIfInBounds_toArray, List.set_cons_zero, List.set_cons_succ]
    refine lat_any (R0 := fun _ _ _ _ => True) (R1 := fun _ _ _ v => ∀ W, Fun1 W v (oneV e.op)) (R2 := fun lo N w v => WorkK lo N w v x) goes_true (goes_fun1 _) (goes_work x) false w.heap.size wa 1
      (fun t0 t1 t2 p0 p1 p2 => #[.agg #[.int .i64 e.op, .int .i64 e.n, .int .i64 e.v.k, .int .i64 e.v.n, .string e.v.s, .slice (some ⟨vb, vo, none⟩) 1 c], .pointer (some ⟨w.heap.size, 0, none⟩), .nilFunc, p0, p1, undef, undef, undef, undef, undef, undef, .pointer (some ⟨w.heap.size, 5, none⟩), .slice (some ⟨vb, vo, none⟩) 1 c, .int .i64 1, .bool false, .bool false, undef, undef, .bool true, .bool true, .pointer (some ⟨w.heap.size, 0, none⟩), .int .i64 e.op, t1, .pointer (some ⟨w.heap.size, 5, none⟩), .slice (some ⟨vb, vo, none⟩) 1 c, .pointer (some ⟨vb, vo, none⟩), .agg #[.int .i64 x.op, .int .i64 x.n, .int .i64 x.v.k, .int .i64 x.v.n, .string x.v.s, .slice a1 x.args.length cc1], t2, undef, undef, undef, undef, undef, undef, undef, undef, undef, undef, undef, undef, undef, undef, undef, undef, undef, undef, undef, undef, undef, undef, undef, undef, undef, undef, undef, undef, undef, undef, undef, undef, undef]) (fun d b0 b1 _ => #[true, true, decide (2 ≤ d), true, true, true, true, decide (3 ≤ d), b0, b1, false, false]) (fun d b0 b1 _ => (3 - d) + (if b0 then 0 else 1) + (if b1 then 0 else 1) + 2) (fun d => if d = 1 then 2 else 7) 8 9 100 72 60 0
      (fun w' h => h) ?ok (fun h => absurd h (by decide)) ?c1 ?c2 ?a0 ?a1 (fun h => absurd h (by decide)) ?fin (d := 1) (b0 := false) (b1 := false) (b2 := true) (t0 := undef) (t1 := undef) (t2 := undef) (p0 := undef) (p1 := undef) (p2 := undef) (N := []) (by decide) (by decide) (by decide) ?lat ?hf ?hL ?ha
    case ok =>
      intro d b0 b1 b2 h1 h2 h3 h4
      have hd : d = 1 ∨ d = 2 ∨ d = 3 := by omega
      rcases hd with rfl | rfl | rfl <;> cases b0 <;> cases b1 <;> cases b2 <;> first | (exact absurd h3 (by decide)) | (exact absurd h4 (by decide)) | (show stOk _ _ _ _ _ _ _ _ _ _ _ _ = true; clear h1 h2 h3 h4; kernel_rfl)
    case hf => rfl
    case hL => rfl
    case ha => rfl
    case lat =>
      exact ⟨(Below.refl _ wa).drew, hszl, fun b h => absurd h (by simp), fun _ => trivial, fun h => absurd h (by decide), fun h => absurd h (by decide), fun h => absurd h (by decide), fun h => absurd h (by decide), fun _ h => absurd h (by decide), fun h => absurd h (by decide), fun _ _ h => absurd h (by decide), fun _ _ h => absurd h (by decide)⟩
    case c1 =>
      intro t0 t1 t2 p0 p1 p2 w' K hb hK
      refine wpOp_lit rfl (by rfl) fun K' hK' => ?_
      have HS := hide (single_k e.op w')
      clear c0 c1 c2 c3 c4 c5 d0 d1 d2 d3 d4 d5
      go_simp
      refine (unhide HS).mono ?_
      rintro r w1 ⟨⟨F, rfl, hF⟩, rfl⟩
      go_simp
      exact unhide hK' _ _ (hK F _ (Below.refl _ _) hF)
    case c2 =>
      intro t0 t1 t2 p0 p1 p2 w' K hb hK
      refine wpOp_lit rfl (by rfl) fun K' hK' => ?_
      have HS := hide (unhide HIH a1 cc1 w' (Ex.all_later _ (unhide HAL) hb))
      rw [Ex.val_open] at HS
      clear c0 c1 c2 c3 c4 c5 d0 d1 d2 d3 d4 d5
      go_simp
      refine (unhide HS).mono ?_
      rintro r w1 ⟨F, rfl, hF, hb1⟩
      go_simp
      exact unhide hK' _ _ (hK F _ hb1 hF)
    case a0 =>
      intro t0 t1 t2 p0 p1 p2 w' K hK
      refine wpOp_lit rfl (by rfl) fun K' hK' => ?_
      clear c0 c1 c2 c3 c4 c5 d0 d1 d2 d3 d4 d5
      go_simp
      exact unhide hK' _ _ hK
    case a1 =>
      intro t0 t1 t2 p0 p1 p2 w' K hK
      refine wpOp_lit rfl (by rfl) fun K' hK' => ?_
      clear c0 c1 c2 c3 c4 c5 d0 d1 d2 d3 d4 d5
      go_simp
      exact unhide hK' _ _ hK
    case fin =>
      intro t0 t1 t2 p0 p1 p2 N w' h
      obtain ⟨B1, hN1, rfl, x1, y1⟩ := h.q0 rfl
      obtain ⟨B2, hN2, rfl, x2, y2⟩ := h.q1 rfl
      have hne : B1 ≠ B2 := fun he => h.n01 rfl rfl (by rw [he])
      have hne' : B2 ≠ B1 := fun he => hne he.symm
      have HF1 := hide (h.r1 (by decide))
      have HF2 := hide (((h.r2 (by decide)).on (Kept.of_store w' _ 0 t1 hN1)).on (Kept.of_store _ _ 0 t2 hN2))
      have hl1 := h.new B1 hN1
      have hl2 := h.new B2 hN2
      have HBE := hide (((below_step (unhide HBA) h.bel).setCell (p := ⟨B1, 0, none⟩) (by show w.heap.size ≤ B1; omega) t1).setCell (p := ⟨B2, 0, none⟩) (by show w.heap.size ≤ B2; omega) t2)
      have HL := hide (show w.heap.size ≤ B1 ∧ w.heap.size ≤ B2 by omega)
      unfold Box1 at x1 x2
      obtain ⟨n1, k1, ht1, _⟩ := h.r1 (by decide) w'
      obtain ⟨n2, k2, ht2, _⟩ := h.r2 (by decide)
      subst ht1 ht2
      have x3 : (w'.setCell ⟨B1, 0, none⟩ (.func (.func n1) #[] k1)).cell? ⟨B2, 0, none⟩ = some .nilFunc := by simp [go_sem, *]
      have y3 : (w'.setCell ⟨B1, 0, none⟩ (.func (.func n1) #[] k1)).frozen? ⟨B2, 0, none⟩ = false := by simp [go_sem, *]
      have X4 : Hid (Box1 ((w'.setCell ⟨B1, 0, none⟩ (.func (.func n1) #[] k1)).setCell ⟨B2, 0, none⟩ (.func (.func n2) #[] k2)) B1 (.func (.func n1) #[] k1) ∧ Box1 ((w'.setCell ⟨B1, 0, none⟩ (.func (.func n1) #[] k1)).setCell ⟨B2, 0, none⟩ (.func (.func n2) #[] k2)) B2 (.func (.func n2) #[] k2)) := by
        show _ ∧ _
        unfold Box1
        constructor <;> simp [go_sem, *]
      clear h hl1 hl2 hN1 hN2 c0 c1 c2 c3 c4 c5 d0 d1 d2 d3 d4 d5
      dsimp only
      refine anyG_one (i := 10) (by kernel_rfl) ?_
      refine wpOp_lit rfl (by rfl) fun K hK => ?_
      go_simp
      refine unhide hK _ _ ⟨fun hh => absurd hh (by decide), ?_⟩
      clear hK K
      refine anyG_one (i := 11) (by kernel_rfl) ?_
      refine wpOp_lit rfl (by rfl) fun K hK => ?_
      go_simp
      refine unhide hK _ _ ⟨fun hh => absurd hh (by decide), ?_⟩
      clear hK K
      refine anyG_done (by kernel_rfl) ?_ _
      refine NoPanic.normal ?_
      clear x1 x2 x3
      go_wp2
      go_meet
      exact ⟨B1, B2, _, _, rfl, rfl, (unhide HL).1, (unhide HL).2, (unhide X4).1, (unhide X4).2, unhide HF1, (unhide HF2).more (Nat.le_refl _) (by simp), unhide HBE⟩
  case rest =>
    obtain ⟨B1, B2, F1, F2, rfl, rfl, H⟩ := hcut
    clear c0 c1 c2 c3 c4 c5 d0 d1 d2 d3 d4 d5
    go_wp2
    go_ret
    obtain ⟨l1, l2, x1, x2, hF1, hF2, hbe⟩ := unhide H
    refine ⟨_, rfl, ⟨60, _, rfl, ent29, fun W' a' c' row hW hr hv hl => ?_⟩, hbe⟩
    rw [unhide HEV row]
    exact w29 (oneV e.op) hxf (x1.kept hW l1 (by simp)) (x2.kept hW l2 (by simp)) (hF1 W') (hF2.on hW).work a' c' row hr hv hl
end Go.Proofs.YtmagpdblacgneaaGreat
