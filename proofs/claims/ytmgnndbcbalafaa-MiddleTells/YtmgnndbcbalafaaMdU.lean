import Derived.Test.YtmgnndbcbalafaaMdT
set_option linter.unusedSimpArgs false
set_option linter.unusedVariables false
namespace Go.Proofs.Ytmgnndbcbalafaa
open Go.RowKit Go.Sort

/-- One row of the script. -/
structure Cm where
  k : Int
  n : Int
  s : ByteArray
  N : Int
  m : Bool
  A : Int
  B : Int
def ScAt (w : World) (a : Option Addr) (ss : List Cm) : Prop :=
  ss = [] ∨ ∃ b off, a = some ⟨b, off, none⟩ ∧ ∀ i x, ss[i]? = some x → w.cell? ⟨b, off + i * 7, none⟩ = some (.int .i64 x.k) ∧ w.cell? ⟨b, off + i * 7 + 1, none⟩ = some (.int .i64 x.n) ∧ w.cell? ⟨b, off + i * 7 + 2, none⟩ = some (.string x.s) ∧ w.cell? ⟨b, off + i * 7 + 3, none⟩ = some (.int .i64 x.N) ∧ w.cell? ⟨b, off + i * 7 + 4, none⟩ = some (.bool x.m) ∧ w.cell? ⟨b, off + i * 7 + 5, none⟩ = some (.int .i64 x.A) ∧ w.cell? ⟨b, off + i * 7 + 6, none⟩ = some (.int .i64 x.B)
theorem ScAt.later {w w' : World} {a : Option Addr} {ss : List Cm} (h : ScAt w a ss) (hb : Below w.heap.size w w') : ScAt w' a ss := by
  rcases h with h | ⟨b, off, ha, h⟩
  · exact .inl h
  · exact .inr ⟨b, off, ha, fun i x hx => by
      obtain ⟨h0, h1, h2, h3, h4, h5, h6⟩ := h i x hx
      exact ⟨cell_later hb h0, cell_later hb h1, cell_later hb h2, cell_later hb h3, cell_later hb h4, cell_later hb h5, cell_later hb h6⟩⟩

/-- append of numbers to own memory from B0 on. -/
theorem run_app_base (B0 : Nat) (w : World) (ty : TypeId) (s : Value) (zs : List Int) (ho : w.ownsRow B0 2 1 s zs.length (ints zs)) (hB : B0 ≤ w.heap.size) (a : Option Addr) (c : Nat) (ms : List Int) (hm : NumAt w a ms) (hn : a = none → ms = [] ∧ c = 0) (hl : zs.length + ms.length ≤ 1048576) :
    ∃ s' w1, (Builtin.append_ #[23, 23] ty #[s, .slice a ms.length c]).run Try.prog w = .ok s' w1 ∧ w1.ownsRow B0 2 1 s' (zs ++ ms).length (ints (zs ++ ms)) ∧ Below B0 w w1 ∧ w.grownBy w1 s.ownBlock := by
  obtain ⟨i2, hi2, z20, z21, z22⟩ := info_parts Try.info2
  cases a with
  | none =>
    obtain ⟨rfl, rfl⟩ := hn rfl
    refine ⟨s, w, run_append_owned_none (P := Try.prog) (w := w) B0 23 ty 2 i2 1 Try.underlying23 hi2 s zs.length (ints zs) ho, by simpa using ho, Below.refl _ _, ⟨rfl, rfl, rfl, Nat.le_refl _, fun _ _ _ => rfl⟩⟩
  | some ad =>
    have hnews : ∀ j u, (ints ms)[j]? = some u → w.cell? (ad.add j) = some u := by
      intro j u hu
      rcases hm with rfl | ⟨b, off, e, hc⟩
      · simp [ints] at hu
      · cases e
        simp only [ints, List.getElem?_map, Option.map_eq_some_iff] at hu
        obtain ⟨x, hx, rfl⟩ := hu
        rw [Addr.add_lit]
        exact hc j x hx
    obtain ⟨s', w1, hr, h2, h3, _, h5⟩ := run_append_own_at (P := Try.prog) (w := w) B0 23 ty 2 i2 (.int .i64 0) 1 8 Try.underlying23 hi2 z20 z21 z22 rfl (by decide) s zs.length (ints zs) ho ad ms.length c (ints ms) (by rw [ints_len]; omega) hnews (ints_one _) (by unfold maxLen; omega) (by omega) hB
    exact ⟨s', w1, hr, by rw [List.length_append, ints_app]; exact h2, grown_below h3 hB fun g hg => (ho.lt g hg).1, h3⟩
theorem wp_app_base {o : Oper} {a : Act} {w : World} {K : Act → World → Prop} {Q : Exit → Act → World → Prop} (B0 : Nat) (d x : Operand)
    (hop : o.op = Op.call { callee := Callee.builtin Builtin.append, args := #[d, x], argTypes := #[23, 23] })
    (s : Value) (zs : List Int) (hd : a.eval d = s) (ho : w.ownsRow B0 2 1 s zs.length (ints zs)) (hB : B0 ≤ w.heap.size) (ad : Option Addr) (c : Nat) (ms : List Int) (hx : a.eval x = .slice ad ms.length c) (hm : NumAt w ad ms) (hn : ad = none → ms = [] ∧ c = 0) (hl : zs.length + ms.length ≤ 1048576) (ZS : List Int) (hZ : zs ++ ms = ZS)
    (h : ∀ a5 c5 w1, w1.ownsRow B0 2 1 (.slice a5 ZS.length c5) ZS.length (ints ZS) → Below B0 w w1 → w.grownBy w1 s.ownBlock → K (a.put o.dst (.slice a5 ZS.length c5)) w1) : o.wp Try.prog a w K Q := by
  obtain ⟨s', w1, hr, h2, h3, h4⟩ := run_app_base B0 w o.type s zs ho hB ad c ms hm hn hl
  rw [hZ] at h2
  obtain ⟨a5, c5, rfl, _⟩ := num_of_own h2
  unfold Oper.wp execOp
  simp only [hop, resolve, invoke, builtin, Sem.run_bind, Sem.run_pure, Result.andThen_ok, List.map_toArray, List.map_cons, List.map_nil, hd, hx, hr]
  exact h a5 c5 w1 h2 h3 h4
/-- []int64{}. -/
theorem own_empty (w : World) (B0 : Nat) (hB : B0 ≤ w.heap.size) : (w.alloc (.cells #[] 2)).ownsRow B0 2 1 (.slice (some ⟨w.heap.size, 0, none⟩) ([] : List Int).length 0) ([] : List Int).length (ints []) := by
  refine ⟨rfl, .inr ⟨w.heap.size, 0, #[], rfl, hB, ?_, Nat.le_refl _, Nat.zero_le _, rfl, rfl⟩⟩
  show (w.heap.push _)[w.heap.size]? = _
  rw [Array.getElem?_push_size]

/-- The state of the law between two rows. -/
def At (w0 w : World) (c bl bm : Nat) (r : Nat) : Prop :=
  ∃ bx Ss Lss Ms Xs, St w0 w c 3 bl bm bx Ss Lss Ms Xs Xs ∧ ∀ i, i < 3 → (Xs i).length ≤ 20000 + r ∧ ∀ z ∈ Xs i, z ≤ 9223372036854775807

theorem up_const (q : Nat) : up (fun _ : Nat => ([] : List Int)) q [] = fun _ => [] := by funext j; unfold up; split <;> rfl


theorem At.put {w0 W W3 : World} {c bl bm p r c5 : Nat} {a5 : Option Addr} {bx : Nat → Nat} {Ss : Nat → Value} {Lss : Nat → List Value} {Ms : Nat → Value} {Xs : Nat → List Int} {Y : List Int} (hS : St w0 W c 3 bl bm bx Ss Lss Ms (up Xs p Y) Xs) (hp : p < 3) (hb : Below W.heap.size W W3) (ho : W3.ownsRow W.heap.size 2 1 (.slice a5 Y.length c5) Y.length (ints Y))
    (hL : ∀ i, i < 3 → (Xs i).length ≤ 20000 + r ∧ ∀ z ∈ Xs i, z ≤ 9223372036854775807) (hY : Y.length ≤ 20000 + (r + 1)) (hYz : ∀ z ∈ Y, z ≤ 9223372036854775807) : At w0 (W3.setCell ⟨bm, p, none⟩ (.slice a5 Y.length c5)) c bl bm (r + 1) := by
  obtain ⟨a', c', e, h1, h2, h3⟩ := num_of_own2 ho
  cases e
  refine ⟨bx, Ss, Lss, _, up Xs p Y, hS.put hb h1 h3 (fun ad had => ⟨h2 ad had, ?_⟩), fun i hi => ?_⟩
  · subst had; exact (ho.lt ad.block rfl).2
  · by_cases e : i = p
    · subst e; rw [up_same]; exact ⟨hY, hYz⟩
    · rw [up_ne e]; exact ⟨by have := (hL i hi).1; omega, (hL i hi).2⟩
end Go.Proofs.Ytmgnndbcbalafaa
