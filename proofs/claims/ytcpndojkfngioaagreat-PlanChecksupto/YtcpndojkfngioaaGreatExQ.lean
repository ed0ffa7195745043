import Derived.Test.YtcpndojkfngioaaGreatExK
import Derived.Test.YtcpndojkfngioaaGreatExO
import Derived.Test.YtcpndojkfngioaaGreatKeptA
set_option linter.unusedSimpArgs false
set_option linter.unusedVariables false
namespace Go.Proofs.YtcpndojkfngioaaGreat
open Go.RowKit Go.Sort

theorem Box1.kept {lo : Nat} {N : List Nat} {w w' : World} {B : Nat} {v : Value} (h : Box1 w B v) (hk : Kept lo N w w') (h1 : lo ≤ B) (h3 : B ∉ N) : Box1 w' B v := Kept.cell h hk h1 h3
theorem BoxAt.kept {lo : Nat} {N : List Nat} {w w' : World} {B : Nat} {v : Val} (h : BoxAt w B v) (hk : Kept lo N w w') (h1 : lo ≤ B) (h3 : B ∉ N) : BoxAt w' B v := ⟨Kept.cell h.1 hk h1 h3, Kept.cell h.2.1 hk h1 h3, Kept.cell h.2.2 hk h1 h3⟩
def Fun2K (lo : Nat) (N : List Nat) (W : World) (F : Value) (g : Val → Val → Val) : Prop := ∃ n k, F = .func (.func n) #[] k ∧ Enters n ∧ ∀ W' x y, Kept lo N W W' → VOk x → VOk y → Calls Tryz.prog n (#[x.v, y.v] ++ k) W' fun r w' => r = .returned (g x y).v ∧ Below W'.heap.size W' w'
def WorkK (lo : Nat) (N : List Nat) (W : World) (F : Value) (e : Ex) : Prop := ∃ n k, F = .func (.func n) #[] k ∧ Enters n ∧ ∀ W' a c row, Kept lo N W W' → RowAt W' a row → (∀ x ∈ row, VOk x) → row.length ≤ 140737488355328 → Calls Tryz.prog n (#[.slice a row.length c] ++ k) W' fun r w' => r = .returned (evalE row e).v ∧ Below W'.heap.size W' w'
theorem Fun2K.of {lo : Nat} {N : List Nat} {W : World} {F : Value} {g g' : Val → Val → Val} (h : Fun2K lo N W F g) (e : g = g') : Fun2K lo N W F g' := e ▸ h
theorem Fun2K.on {lo : Nat} {N : List Nat} {W W' : World} {F : Value} {g : Val → Val → Val} (h : Fun2K lo N W F g) (hk : Kept lo N W W') : Fun2K lo N W' F g := by
  obtain ⟨n, k, rfl, e, H⟩ := h
  exact ⟨n, k, rfl, e, fun W'' x y h1 h2 h3 => H W'' x y (hk.trans h1) h2 h3⟩
theorem WorkK.on {lo : Nat} {N : List Nat} {W W' : World} {F : Value} {x : Ex} (h : WorkK lo N W F x) (hk : Kept lo N W W') : WorkK lo N W' F x := by
  obtain ⟨n, k, rfl, e, H⟩ := h
  exact ⟨n, k, rfl, e, fun W'' a c row h1 h2 h3 h4 => H W'' a c row (hk.trans h1) h2 h3 h4⟩
theorem Fun2K.more {lo lo' : Nat} {N N' : List Nat} {W : World} {F : Value} {g : Val → Val → Val} (h : Fun2K lo N W F g) (hl : lo' ≤ lo) (hN : ∀ b ∈ N', b ∈ N ∨ b < lo ∨ W.heap.size ≤ b) : Fun2K lo' N' W F g := by
  obtain ⟨n, k, rfl, e, H⟩ := h
  exact ⟨n, k, rfl, e, fun W'' x y h1 h2 h3 => H W'' x y (h1.more hl hN) h2 h3⟩
theorem WorkK.more {lo lo' : Nat} {N N' : List Nat} {W : World} {F : Value} {x : Ex} (h : WorkK lo N W F x) (hl : lo' ≤ lo) (hN : ∀ b ∈ N', b ∈ N ∨ b < lo ∨ W.heap.size ≤ b) : WorkK lo' N' W F x := by
  obtain ⟨n, k, rfl, e, H⟩ := h
  exact ⟨n, k, rfl, e, fun W'' a c row h1 h2 h3 h4 => H W'' a c row (h1.more hl hN) h2 h3 h4⟩
theorem Fun2K.fun2 {lo : Nat} {N : List Nat} {W : World} {F : Value} {g : Val → Val → Val} (h : Fun2K lo N W F g) : Fun2 W F g := by
  obtain ⟨n, k, rfl, e, H⟩ := h
  exact ⟨n, k, rfl, e, fun W'' x y h1 h2 h3 => H W'' x y (Kept.of_below _ _ h1) h2 h3⟩
theorem WorkK.work {lo : Nat} {N : List Nat} {W : World} {F : Value} {x : Ex} (h : WorkK lo N W F x) : Work W F x := by
  obtain ⟨n, k, rfl, e, H⟩ := h
  exact ⟨n, k, rfl, e, fun W'' a c row h1 h2 h3 h4 => H W'' a c row (Kept.of_below _ _ h1) h2 h3 h4⟩
end Go.Proofs.YtcpndojkfngioaaGreat
set_option linter.unusedSimpArgs false
set_option linter.unusedVariables false
namespace Go.Proofs.YtcpndojkfngioaaGreat
open Go.RowKit Go.Sort

/-! A chain of calls and allocs that are free of it, in any order: a lattice. -/
theorem anyG_lat {P : Program} {ops : Array Oper} {Q : Exit → Act → World → Prop} {md : Region.Mode} {S : World → Prop} {k : Nat} (J : Nat → Array Bool → Act → World → Prop)
    (h : ∀ f L a w, J f L a w → anyG P md ops Q S k f L a w ∨ ∃ f', f = f' + 1 ∧ Region.ready md ops L ≠ [] ∧ ∀ i ∈ Region.ready md ops L, wpOp P ops Q i (fun a' w' => S w' ∧ J f' (L.setIfInBounds i true) a' w') a w) :
    ∀ f L a w, J f L a w → anyG P md ops Q S k f L a w
  | 0, L, a, w, hJ => by
    rcases h 0 L a w hJ with h | ⟨f', h1, _⟩
    · exact h
    · omega
  | f + 1, L, a, w, hJ => by
    rcases h (f + 1) L a w hJ with h1 | ⟨f', h1, h2, h3⟩
    · exact h1
    · have : f' = f := by omega
      subst this
      exact anyG_many _ rfl h2 fun i hi => wpOp_mono (fun a' w' h' => ⟨fun _ => h'.1, anyG_lat J h f' _ a' w' h'.2⟩) (h3 i hi)
/-- What is said of a value goes on. -/
structure Goes (R : Nat → List Nat → World → Value → Prop) : Prop where
  on : ∀ {lo N w w' v}, R lo N w v → Kept lo N w w' → R lo N w' v
  more : ∀ {lo lo' : Nat} {N N' : List Nat} {w : World} {v : Value}, R lo N w v → lo' ≤ lo → (∀ b ∈ N', b ∈ N ∨ b < lo ∨ w.heap.size ≤ b) → R lo' N' w v
theorem goes_work (x : Ex) : Goes (fun lo N w v => WorkK lo N w v x) := ⟨fun h hk => h.on hk, fun h a b => h.more a b⟩
theorem goes_fun2 (g : Val → Val → Val) : Goes (fun lo N w v => Fun2K lo N w v g) := ⟨fun h hk => h.on hk, fun h a b => h.more a b⟩
theorem goes_fun1 (g : Val → Val) : Goes (fun _ _ _ v => ∀ W, Fun1 W v g) := ⟨fun h _ => h, fun h _ _ => h⟩
theorem goes_true : Goes (fun _ _ _ _ => True) := ⟨fun h _ => h, fun h _ _ => h⟩
def PtrAt (w : World) (N : List Nat) (p : Value) : Prop := ∃ B ∈ N, p = .pointer (some ⟨B, 0, none⟩) ∧ Box1 w B .nilFunc ∧ w.frozen? ⟨B, 0, none⟩ = false
structure Lat (R0 R1 R2 : Nat → List Nat → World → Value → Prop) (u : Bool) (lo : Nat) (wa : World) (d : Nat) (b0 b1 b2 : Bool) (t0 t1 t2 p0 p1 p2 : Value) (N : List Nat) (w : World) : Prop where
  bel : Below wa.heap.size wa w
  low : lo ≤ wa.heap.size
  new : ∀ b ∈ N, wa.heap.size ≤ b ∧ b < w.heap.size
  r0 : 1 ≤ d → R0 lo N w t0
  r1 : 2 ≤ d → R1 lo N w t1
  r2 : 3 ≤ d → R2 lo N w t2
  q0 : b0 = true → PtrAt w N p0
  q1 : b1 = true → PtrAt w N p1
  q2 : b2 = true → u = true → PtrAt w N p2
  n01 : b0 = true → b1 = true → p0 ≠ p1
  n02 : b0 = true → b2 = true → u = true → p0 ≠ p2
  n12 : b1 = true → b2 = true → u = true → p1 ≠ p2
section
variable {R0 R1 R2 : Nat → List Nat → World → Value → Prop} {u : Bool} {lo : Nat} {wa : World} {d : Nat} {b0 b1 b2 : Bool} {t0 t1 t2 p0 p1 p2 : Value} {N : List Nat} {w w' : World}
theorem PtrAt.later {p : Value} (h : PtrAt w N p) (hb : Below w.heap.size w w') : PtrAt w' N p := by
  obtain ⟨B, h1, h2, h3, h4⟩ := h
  exact ⟨B, h1, h2, h3.later hb, by rw [(bcell hb).2 _ _ (World.block_lt_of_cell? w _ h3)]; exact h4⟩
theorem PtrAt.cons {p : Value} (B : Nat) (h : PtrAt w N p) : PtrAt w (B :: N) p := by
  obtain ⟨C, h1, h2, h3⟩ := h
  exact ⟨C, List.mem_cons_of_mem _ h1, h2, h3⟩
theorem PtrAt.ne {p : Value} (h : PtrAt w N p) (hN : ∀ b ∈ N, b < w.heap.size) : p ≠ .pointer (some ⟨w.heap.size, 0, none⟩) := by
  obtain ⟨C, h1, h2, h3⟩ := h
  have := hN C h1
  rw [h2]
  intro he
  injection he with he
  injection he with he
  injection he with he
  omega
/-- A call of the chain. -/
theorem Lat.call (g0 : Goes R0) (g1 : Goes R1) (g2 : Goes R2) (h : Lat R0 R1 R2 u lo wa d b0 b1 b2 t0 t1 t2 p0 p1 p2 N w) (hb : Below w.heap.size w w') {t0' t1' t2' : Value}
    (e0 : d ≠ 0 → t0' = t0) (e1 : d ≠ 1 → t1' = t1) (e2 : d ≠ 2 → t2' = t2) (h0 : d = 0 → R0 w.heap.size [] w' t0') (h1 : d = 1 → R1 w.heap.size [] w' t1') (h2 : d = 2 → R2 w.heap.size [] w' t2') :
    Lat R0 R1 R2 u lo wa (d + 1) b0 b1 b2 t0' t1' t2' p0 p1 p2 N w' := by
  have hl : lo ≤ w.heap.size := Nat.le_trans h.low h.bel.size
  have hN : ∀ b ∈ N, b ∈ ([] : List Nat) ∨ b < w.heap.size ∨ w'.heap.size ≤ b := fun b hb => .inr (.inl (h.new b hb).2)
  have hk := Kept.of_below lo N hb
  refine ⟨below_step h.bel hb, h.low, fun b hb' => ⟨(h.new b hb').1, Nat.lt_of_lt_of_le (h.new b hb').2 hb.size⟩, fun hd => ?_, fun hd => ?_, fun hd => ?_, fun e => (h.q0 e).later hb, fun e => (h.q1 e).later hb, fun e e' => (h.q2 e e').later hb, h.n01, h.n02, h.n12⟩
  · by_cases hz : d = 0
    · exact g0.more (h0 hz) hl hN
    · rw [e0 hz]; exact g0.on (h.r0 (by omega)) hk
  · by_cases hz : d = 1
    · exact g1.more (h1 hz) hl hN
    · rw [e1 hz]; exact g1.on (h.r1 (by omega)) hk
  · by_cases hz : d = 2
    · exact g2.more (h2 hz) hl hN
    · rw [e2 hz]; exact g2.on (h.r2 (by omega)) hk
theorem ptr_new (w : World) (N : List Nat) (t : TypeId) : PtrAt (w.alloc (.cells #[.nilFunc] t)) (w.heap.size :: N) (.pointer (some ⟨w.heap.size, 0, none⟩)) :=
  ⟨_, List.mem_cons_self, rfl, by unfold Box1; simp [go_sem], by simp [go_sem]⟩
/-- An alloc: what goes on. -/
theorem Lat.base (g0 : Goes R0) (g1 : Goes R1) (g2 : Goes R2) (h : Lat R0 R1 R2 u lo wa d b0 b1 b2 t0 t1 t2 p0 p1 p2 N w) (t : TypeId) :
    Lat R0 R1 R2 u lo wa d b0 b1 b2 t0 t1 t2 p0 p1 p2 (w.heap.size :: N) (w.alloc (.cells #[.nilFunc] t)) := by
  have hb := below_alloc (Below.refl _ w) (.cells #[.nilFunc] t)
  have hN : ∀ b ∈ w.heap.size :: N, b ∈ N ∨ b < lo ∨ w.heap.size ≤ b := fun b hb => by
    rcases List.mem_cons.1 hb with h | h
    · exact .inr (.inr (by omega))
    · exact .inl h
  have hk := Kept.of_below lo (w.heap.size :: N) hb
  have hs : w.heap.size < (w.alloc (.cells #[.nilFunc] t)).heap.size := by simp [go_sem]
  refine ⟨below_step h.bel hb, h.low, fun b hb' => ?_, fun hd => g0.on (g0.more (h.r0 hd) (Nat.le_refl _) hN) hk, fun hd => g1.on (g1.more (h.r1 hd) (Nat.le_refl _) hN) hk, fun hd => g2.on (g2.more (h.r2 hd) (Nat.le_refl _) hN) hk, fun e => ((h.q0 e).later hb).cons _, fun e => ((h.q1 e).later hb).cons _, fun e e' => ((h.q2 e e').later hb).cons _, h.n01, h.n02, h.n12⟩
  rcases List.mem_cons.1 hb' with h' | h'
  · rw [h']; exact ⟨h.bel.size, hs⟩
  · exact ⟨(h.new b h').1, Nat.lt_trans (h.new b h').2 hs⟩
theorem Lat.alloc0 (g0 : Goes R0) (g1 : Goes R1) (g2 : Goes R2) (h : Lat R0 R1 R2 u lo wa d false b1 b2 t0 t1 t2 p0 p1 p2 N w) (t : TypeId) :
    Lat R0 R1 R2 u lo wa d true b1 b2 t0 t1 t2 (.pointer (some ⟨w.heap.size, 0, none⟩)) p1 p2 (w.heap.size :: N) (w.alloc (.cells #[.nilFunc] t)) := by
  have hN : ∀ b ∈ N, b < w.heap.size := fun b hb => (h.new b hb).2
  have k := h.base g0 g1 g2 t
  exact ⟨k.bel, k.low, k.new, k.r0, k.r1, k.r2, fun _ => ptr_new w N t, k.q1, k.q2, fun _ e => ((h.q1 e).ne hN).symm, fun _ e e' => ((h.q2 e e').ne hN).symm, k.n12⟩
theorem Lat.alloc1 (g0 : Goes R0) (g1 : Goes R1) (g2 : Goes R2) (h : Lat R0 R1 R2 u lo wa d b0 false b2 t0 t1 t2 p0 p1 p2 N w) (t : TypeId) :
    Lat R0 R1 R2 u lo wa d b0 true b2 t0 t1 t2 p0 (.pointer (some ⟨w.heap.size, 0, none⟩)) p2 (w.heap.size :: N) (w.alloc (.cells #[.nilFunc] t)) := by
  have hN : ∀ b ∈ N, b < w.heap.size := fun b hb => (h.new b hb).2
  have k := h.base g0 g1 g2 t
  exact ⟨k.bel, k.low, k.new, k.r0, k.r1, k.r2, k.q0, fun _ => ptr_new w N t, k.q2, fun e _ => (h.q0 e).ne hN, k.n02, fun _ e e' => ((h.q2 e e').ne hN).symm⟩
theorem Lat.alloc2 (g0 : Goes R0) (g1 : Goes R1) (g2 : Goes R2) (h : Lat R0 R1 R2 u lo wa d b0 b1 false t0 t1 t2 p0 p1 p2 N w) (t : TypeId) :
    Lat R0 R1 R2 u lo wa d b0 b1 true t0 t1 t2 p0 p1 (.pointer (some ⟨w.heap.size, 0, none⟩)) (w.heap.size :: N) (w.alloc (.cells #[.nilFunc] t)) := by
  have hN : ∀ b ∈ N, b < w.heap.size := fun b hb => (h.new b hb).2
  have k := h.base g0 g1 g2 t
  exact ⟨k.bel, k.low, k.new, k.r0, k.r1, k.r2, k.q0, k.q1, fun _ _ => ptr_new w N t, k.n01, fun e _ _ => (h.q0 e).ne hN, fun e _ _ => (h.q1 e).ne hN⟩
end
end Go.Proofs.YtcpndojkfngioaaGreat
set_option linter.unusedSimpArgs false
set_option linter.unusedVariables false
namespace Go.Proofs.YtcpndojkfngioaaGreat
open Go.RowKit Go.Sort

/-- What can come up at a place of the lattice, and where it leads. -/
def stOk (md : Region.Mode) (ops : Array Oper) (lst : Nat → Bool → Bool → Bool → Array Bool) (fu : Nat → Bool → Bool → Bool → Nat) (cl : Nat → Nat) (al0 al1 al2 : Nat) (d : Nat) (b0 b1 b2 : Bool) : Bool :=
  !(Region.ready md ops (lst d b0 b1 b2)).isEmpty && (Region.ready md ops (lst d b0 b1 b2)).all fun i =>
    (decide (d < 3) && i == cl d && (lst d b0 b1 b2).setIfInBounds i true == lst (d + 1) b0 b1 b2 && fu d b0 b1 b2 == fu (d + 1) b0 b1 b2 + 1) ||
    (!b0 && i == al0 && (lst d b0 b1 b2).setIfInBounds i true == lst d true b1 b2 && fu d b0 b1 b2 == fu d true b1 b2 + 1) ||
    (!b1 && i == al1 && (lst d b0 b1 b2).setIfInBounds i true == lst d b0 true b2 && fu d b0 b1 b2 == fu d b0 true b2 + 1) ||
    (!b2 && i == al2 && (lst d b0 b1 b2).setIfInBounds i true == lst d b0 b1 true && fu d b0 b1 b2 == fu d b0 b1 true + 1)
theorem lat_any {ops : Array Oper} {Q : Exit → Act → World → Prop} {md : Region.Mode} {S : World → Prop} {k : Nat} {R0 R1 R2 : Nat → List Nat → World → Value → Prop} (g0 : Goes R0) (g1 : Goes R1) (g2 : Goes R2) (u : Bool) (lo : Nat) (wa : World) (d0 : Nat)
    (tm : Value → Value → Value → Value → Value → Value → Array Value) (lst : Nat → Bool → Bool → Bool → Array Bool) (fu : Nat → Bool → Bool → Bool → Nat) (cl : Nat → Nat) (al0 al1 al2 : Nat) (y0 y1 y2 : TypeId)
    (hS : ∀ w', Below wa.heap.size wa w' → S w')
    (ok : ∀ d b0 b1 b2, d0 ≤ d → d ≤ 3 → (u || b2) = true → (d == 3 && b0 && b1 && b2) = false → stOk md ops lst fu cl al0 al1 al2 d b0 b1 b2 = true)
    (c0 : d0 = 0 → ∀ t0 t1 t2 p0 p1 p2 w' K, Below wa.heap.size wa w' → (∀ F w'', Below w'.heap.size w' w'' → R0 w'.heap.size [] w'' F → K ⟨tm F t1 t2 p0 p1 p2, []⟩ w'') → wpOp Tryz.prog ops Q (cl 0) K ⟨tm t0 t1 t2 p0 p1 p2, []⟩ w')
    (c1 : ∀ t0 t1 t2 p0 p1 p2 w' K, Below wa.heap.size wa w' → (∀ F w'', Below w'.heap.size w' w'' → R1 w'.heap.size [] w'' F → K ⟨tm t0 F t2 p0 p1 p2, []⟩ w'') → wpOp Tryz.prog ops Q (cl 1) K ⟨tm t0 t1 t2 p0 p1 p2, []⟩ w')
    (c2 : ∀ t0 t1 t2 p0 p1 p2 w' K, Below wa.heap.size wa w' → (∀ F w'', Below w'.heap.size w' w'' → R2 w'.heap.size [] w'' F → K ⟨tm t0 t1 F p0 p1 p2, []⟩ w'') → wpOp Tryz.prog ops Q (cl 2) K ⟨tm t0 t1 t2 p0 p1 p2, []⟩ w')
    (a0 : ∀ t0 t1 t2 p0 p1 p2 w' K, K ⟨tm t0 t1 t2 (.pointer (some ⟨w'.heap.size, 0, none⟩)) p1 p2, []⟩ (w'.alloc (.cells #[.nilFunc] y0)) → wpOp Tryz.prog ops Q al0 K ⟨tm t0 t1 t2 p0 p1 p2, []⟩ w')
    (a1 : ∀ t0 t1 t2 p0 p1 p2 w' K, K ⟨tm t0 t1 t2 p0 (.pointer (some ⟨w'.heap.size, 0, none⟩)) p2, []⟩ (w'.alloc (.cells #[.nilFunc] y1)) → wpOp Tryz.prog ops Q al1 K ⟨tm t0 t1 t2 p0 p1 p2, []⟩ w')
    (a2 : u = true → ∀ t0 t1 t2 p0 p1 p2 w' K, K ⟨tm t0 t1 t2 p0 p1 (.pointer (some ⟨w'.heap.size, 0, none⟩)), []⟩ (w'.alloc (.cells #[.nilFunc] y2)) → wpOp Tryz.prog ops Q al2 K ⟨tm t0 t1 t2 p0 p1 p2, []⟩ w')
    (fin : ∀ t0 t1 t2 p0 p1 p2 N w', Lat R0 R1 R2 u lo wa 3 true true true t0 t1 t2 p0 p1 p2 N w' → anyG Tryz.prog md ops Q S k (fu 3 true true true) (lst 3 true true true) ⟨tm t0 t1 t2 p0 p1 p2, []⟩ w')
    {d : Nat} {b0 b1 b2 : Bool} {t0 t1 t2 p0 p1 p2 : Value} {N : List Nat} {w : World} (hd0 : d0 ≤ d) (hd : d ≤ 3) (hu : (u || b2) = true) (h : Lat R0 R1 R2 u lo wa d b0 b1 b2 t0 t1 t2 p0 p1 p2 N w)
    {f : Nat} {L : Array Bool} {a : Act} (hf : f = fu d b0 b1 b2) (hL : L = lst d b0 b1 b2) (ha : a = ⟨tm t0 t1 t2 p0 p1 p2, []⟩) :
    anyG Tryz.prog md ops Q S k f L a w := by
  refine anyG_lat (fun f L a w => ∃ d b0 b1 b2 t0 t1 t2 p0 p1 p2 N, d0 ≤ d ∧ d ≤ 3 ∧ (u || b2) = true ∧ f = fu d b0 b1 b2 ∧ L = lst d b0 b1 b2 ∧ a = ⟨tm t0 t1 t2 p0 p1 p2, []⟩ ∧ Lat R0 R1 R2 u lo wa d b0 b1 b2 t0 t1 t2 p0 p1 p2 N w) ?_ f L a w ⟨d, b0, b1, b2, t0, t1, t2, p0, p1, p2, N, hd0, hd, hu, hf, hL, ha, h⟩
  clear hd0 hd hu h hf hL ha
  rintro f L a w ⟨d, b0, b1, b2, t0, t1, t2, p0, p1, p2, N, hd0, hd, hu, rfl, rfl, rfl, h⟩
  cases he : (d == 3 && b0 && b1 && b2) with
  | true =>
    simp only [Bool.and_eq_true, beq_iff_eq] at he
    obtain ⟨⟨⟨rfl, rfl⟩, rfl⟩, rfl⟩ := he
    exact .inl (fin _ _ _ _ _ _ _ _ h)
  | false =>
    right
    have hk := ok d b0 b1 b2 hd0 hd hu he
    unfold stOk at hk
    rw [Bool.and_eq_true, List.all_eq_true] at hk
    obtain ⟨hne, hall⟩ := hk
    have hpos : ∃ f', fu d b0 b1 b2 = f' + 1 := by
      match hr : Region.ready md ops (lst d b0 b1 b2), hne, hall with
      | [], hne, _ => simp at hne
      | i :: l, _, hall =>
        have := hall i List.mem_cons_self
        simp only [Bool.or_eq_true, Bool.and_eq_true, beq_iff_eq] at this
        rcases this with ((h | h) | h) | h <;> exact ⟨_, h.2⟩
    obtain ⟨f', hf'⟩ := hpos
    refine ⟨f', hf', fun e => ?_, fun i hi => ?_⟩
    · rw [e] at hne; simp at hne
    have := hall i hi
    simp only [Bool.or_eq_true, Bool.and_eq_true, beq_iff_eq, decide_eq_true_eq, Bool.not_eq_true'] at this
    rcases this with ((⟨⟨⟨h1, h2⟩, h3⟩, h4⟩ | ⟨⟨⟨h1, h2⟩, h3⟩, h4⟩) | ⟨⟨⟨h1, h2⟩, h3⟩, h4⟩) | ⟨⟨⟨h1, h2⟩, h3⟩, h4⟩
    · rw [h3]
      subst h2
      have hff : f' = fu (d + 1) b0 b1 b2 := by omega
      have hcase : d = 0 ∨ d = 1 ∨ d = 2 := by omega
      rcases hcase with hz | hz | hz <;> subst hz
      · refine c0 (by omega) _ _ _ _ _ _ _ _ h.bel fun F w'' hb hF => ?_
        have h' := h.call g0 g1 g2 hb (t0' := F) (t1' := t1) (t2' := t2) (fun h => absurd rfl h) (fun _ => rfl) (fun _ => rfl) (fun _ => hF) (fun h => absurd h (by decide)) (fun h => absurd h (by decide))
        exact ⟨hS _ h'.bel, 1, b0, b1, b2, F, t1, t2, p0, p1, p2, N, by omega, by decide, hu, hff, rfl, rfl, h'⟩
      · refine c1 _ _ _ _ _ _ _ _ h.bel fun F w'' hb hF => ?_
        have h' := h.call g0 g1 g2 hb (t0' := t0) (t1' := F) (t2' := t2) (fun _ => rfl) (fun h => absurd rfl h) (fun _ => rfl) (fun h => absurd h (by decide)) (fun _ => hF) (fun h => absurd h (by decide))
        exact ⟨hS _ h'.bel, 2, b0, b1, b2, t0, F, t2, p0, p1, p2, N, by omega, by decide, hu, hff, rfl, rfl, h'⟩
      · refine c2 _ _ _ _ _ _ _ _ h.bel fun F w'' hb hF => ?_
        have h' := h.call g0 g1 g2 hb (t0' := t0) (t1' := t1) (t2' := F) (fun _ => rfl) (fun _ => rfl) (fun h => absurd rfl h) (fun h => absurd h (by decide)) (fun h => absurd h (by decide)) (fun _ => hF)
        exact ⟨hS _ h'.bel, 3, b0, b1, b2, t0, t1, F, p0, p1, p2, N, by omega, by decide, hu, hff, rfl, rfl, h'⟩
    · rw [h3]
      subst h1 h2
      have h' := h.alloc0 g0 g1 g2 y0
      exact a0 _ _ _ _ _ _ _ _ ⟨hS _ h'.bel, d, true, b1, b2, _, _, _, _, _, _, _, hd0, hd, hu, by omega, rfl, rfl, h'⟩
    · rw [h3]
      subst h1 h2
      have h' := h.alloc1 g0 g1 g2 y1
      exact a1 _ _ _ _ _ _ _ _ ⟨hS _ h'.bel, d, b0, true, b2, _, _, _, _, _, _, _, hd0, hd, hu, by omega, rfl, rfl, h'⟩
    · rw [h3]
      subst h1 h2
      have h' := h.alloc2 g0 g1 g2 y2
      exact a2 (by simpa using hu) _ _ _ _ _ _ _ _ ⟨hS _ h'.bel, d, b0, b1, true, _, _, _, _, _, _, _, hd0, hd, by simp, by omega, rfl, rfl, h'⟩
end Go.Proofs.YtcpndojkfngioaaGreat
