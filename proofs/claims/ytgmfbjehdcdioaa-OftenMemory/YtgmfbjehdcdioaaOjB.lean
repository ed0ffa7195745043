import Derived.Test.YtgmfbjehdcdioaaOjA
set_option linter.unusedSimpArgs false
set_option linter.unusedVariables false
set_option maxRecDepth 100000
namespace Go.Proofs.Ytgmfbjehdcdioaa
open Go.RowKit Go.Sort

theorem flat_set5 : ∀ (L : List Cn) (j : Nat) (x : Cn), j < L.length → (((((L.flatMap c5).set (j * 5) (.int .i64 x.k)).set (j * 5 + 1) (.int .i64 x.n)).set (j * 5 + 2) (.string x.s)).set (j * 5 + 3) (.int .i64 x.lo)).set (j * 5 + 4) (.int .i64 x.hi) = (L.set j x).flatMap c5
  | [], j, x, h => by simp at h
  | z :: L, 0, x, _ => by simp [c5]
  | z :: L, j + 1, x, h => by
    have ih := flat_set5 L j x (by simpa using h)
    rw [List.set_cons_succ, List.flatMap_cons, List.flatMap_cons, ← ih]
    simp only [c5, List.cons_append, List.nil_append]
    rw [show (j + 1) * 5 = j * 5 + 1 + 1 + 1 + 1 + 1 by omega, show j * 5 + 1 + 1 + 1 + 1 + 1 + 1 = (j * 5 + 1) + 1 + 1 + 1 + 1 + 1 by omega, show j * 5 + 1 + 1 + 1 + 1 + 1 + 2 = (j * 5 + 2) + 1 + 1 + 1 + 1 + 1 by omega, show j * 5 + 1 + 1 + 1 + 1 + 1 + 3 = (j * 5 + 3) + 1 + 1 + 1 + 1 + 1 by omega, show j * 5 + 1 + 1 + 1 + 1 + 1 + 4 = (j * 5 + 4) + 1 + 1 + 1 + 1 + 1 by omega]
    simp only [List.set_cons_succ]
theorem OwnF.put {w : World} {base g N cap j : Nat} {L : List Cn} (h : OwnF w base (.slice (some ⟨g, 0, none⟩) N cap) L) (hj : j < L.length) (x : Cn) :
    OwnF (((((w.setCell ⟨g, j * 5, none⟩ (.int .i64 x.k)).setCell ⟨g, j * 5 + 1, none⟩ (.int .i64 x.n)).setCell ⟨g, j * 5 + 2, none⟩ (.string x.s)).setCell ⟨g, j * 5 + 3, none⟩ (.int .i64 x.lo)).setCell ⟨g, j * 5 + 4, none⟩ (.int .i64 x.hi)) base (.slice (some ⟨g, 0, none⟩) N cap) (L.set j x) := by
  have hN := h.len
  subst hN
  have h1 := (World.ownsRow.stored h (j * 5) (.int .i64 x.k)).1
  have h2 := (World.ownsRow.stored h1 (j * 5 + 1) (.int .i64 x.n)).1
  have h3 := (World.ownsRow.stored h2 (j * 5 + 2) (.string x.s)).1
  have h4 := (World.ownsRow.stored h3 (j * 5 + 3) (.int .i64 x.lo)).1
  have h5 := (World.ownsRow.stored h4 (j * 5 + 4) (.int .i64 x.hi)).1
  rw [flat_set5 L j x hj] at h5
  unfold OwnF
  rw [List.length_set]
  exact h5
theorem flat_take5 (L : List Cn) (i : Nat) : (L.flatMap c5).take (i * 5) = (L.take i).flatMap c5 := by
  induction L generalizing i with
  | nil => simp
  | cons z L ih =>
    cases i with
    | zero => simp
    | succ i =>
      rw [List.take_succ_cons, List.flatMap_cons, List.flatMap_cons, ← ih]
      simp only [c5, List.cons_append, List.nil_append]
      rw [show (i + 1) * 5 = i * 5 + 1 + 1 + 1 + 1 + 1 by omega]
      simp only [List.take_succ_cons]
/-- The first ones of a list that is one's own. -/
theorem own_pre {w : World} {base g N n cap : Nat} {L : List Cn} (h : w.ownsRow base 47 5 (.slice (some ⟨g, 0, none⟩) N cap) N (L.flatMap c5)) (hn : n ≤ N) (hL : L.length = N) : OwnF w base (.slice (some ⟨g, 0, none⟩) n cap) (L.take n) := by
  have hl : (L.take n).length = n := by rw [List.length_take]; omega
  unfold OwnF
  rw [hl]
  rcases h.2 with ⟨e, _⟩ | ⟨g', cap', cur, e, hb, hh, hnc, hcm, hcs, htake⟩
  · cases e
  cases e
  refine ⟨by rw [c5_len, hl], .inr ⟨g, cap, cur, rfl, hb, hh, by omega, hcm, hcs, ?_⟩⟩
  rw [← flat_take5, ← htake, List.take_take, Nat.min_eq_left (by omega)]

/-- spoilt, under way: S is the list that is spoilt; the value lies in the box bx. -/
structure SpS (w wr : World) (S : Value) (n bx : Nat) (v : Cn) : Prop where
  own : ∃ zs : List Cn, zs.length = n ∧ OwnF wr 0 S zs
  gr : w.grownBy wr S.ownBlock
  b0 : wr.cell? ⟨bx, 0, none⟩ = some (.int .i64 v.k)
  b1 : wr.cell? ⟨bx, 1, none⟩ = some (.int .i64 v.n)
  b2 : wr.cell? ⟨bx, 2, none⟩ = some (.string v.s)
  b3 : wr.cell? ⟨bx, 3, none⟩ = some (.int .i64 v.lo)
  b4 : wr.cell? ⟨bx, 4, none⟩ = some (.int .i64 v.hi)
  bn : w.heap.size ≤ bx
  lt : ∀ g, S.ownBlock = some g → g < w.heap.size
theorem grownBy_after {w wr w' : World} {r r' : Option Nat} (h : w.grownBy wr r) (k : wr.grownBy w' r') (hr : ∀ g, r' = some g → r = some g ∨ w.heap.size ≤ g) : w.grownBy w' r :=
  ⟨k.os.trans h.os, k.tape.trans h.tape, k.output.trans h.output, Nat.le_trans h.size k.size, fun q hq hn => by
    rw [k.block q (Nat.lt_of_lt_of_le hq h.size) fun e => by
      rcases hr q e.symm with g | g
      · exact hn g.symm
      · omega]
    exact h.block q hq hn⟩
theorem grown_none {w w' : World} (h : Below w.heap.size w w') (r : Option Nat) : w.grownBy w' r := ⟨h.os, h.tape, h.output, h.size, fun q hq _ => h.block q hq⟩
/-- Another block than the list's and the box's has changed. -/
theorem SpS.other {w wr w' : World} {S : Value} {n bx : Nat} {v : Cn} {r : Option Nat} (h : SpS w wr S n bx v) (k : wr.grownBy w' r) (hr : ∀ g, r = some g → w.heap.size ≤ g ∧ g ≠ bx) : SpS w w' S n bx v := by
  obtain ⟨zs, hz, ho⟩ := h.own
  have hcell : ∀ (j : Nat) (u : Value), wr.cell? ⟨bx, j, none⟩ = some u → w'.cell? ⟨bx, j, none⟩ = some u := fun j u hu => by
    have hl := World.block_lt_of_cell? _ _ hu
    rw [← hu]; unfold World.cell?
    rw [k.block bx hl fun e => (hr bx e.symm).2 rfl]
  refine ⟨⟨zs, hz, own_keep ho fun g hg => k.block g (ho.lt g hg).2 fun e => ?_⟩, grownBy_after h.gr k fun g hg => .inr (hr g hg).1, hcell _ _ h.b0, hcell _ _ h.b1, hcell _ _ h.b2, hcell _ _ h.b3, hcell _ _ h.b4, h.bn, h.lt⟩
  have := h.lt g hg
  have := (hr g e.symm).1
  omega
theorem SpS.later {w wr w' : World} {S : Value} {n bx : Nat} {v : Cn} (h : SpS w wr S n bx v) (hb : Below wr.heap.size wr w') : SpS w w' S n bx v := h.other (grown_none hb none) fun g hg => by cases hg
/-- A list that grows out of S, or one in new memory. -/
structure SpT (w wr : World) (S : Value) (n bx : Nat) (T : Value) (N : Nat) : Prop where
  own : ∃ zs : List Cn, zs.length = N ∧ OwnF wr 0 T zs
  rel : (∃ g cap, S = .slice (some ⟨g, 0, none⟩) n cap ∧ T = .slice (some ⟨g, 0, none⟩) N cap ∧ n ≤ N) ∨ ∀ g, T.ownBlock = some g → w.heap.size ≤ g ∧ g ≠ bx
theorem SpT.later {w wr w' : World} {S T : Value} {n bx N : Nat} (h : SpT w wr S n bx T N) (hb : Below wr.heap.size wr w') : SpT w w' S n bx T N := by
  obtain ⟨zs, hz, ho⟩ := h.own
  exact ⟨⟨zs, hz, own_later ho hb⟩, h.rel⟩
theorem SpT.slice {w wr : World} {S T : Value} {n bx N : Nat} (h : SpT w wr S n bx T N) : ∃ a c, T = .slice a N c := by
  obtain ⟨zs, hz, ho⟩ := h.own
  obtain ⟨a, c, e⟩ := ho.slice
  rw [hz] at e
  exact ⟨a, c, e⟩

/-- append of some to such a list. -/
theorem SpT.app {w wr : World} {S T : Value} {n bx N m c : Nat} {v : Cn} {ys : List Cn} (hS : SpS w wr S n bx v) (h : SpT w wr S n bx T N) (ty : TypeId) (a : Addr) (hm : m = ys.length) (hc : ∀ j u, (ys.flatMap c5)[j]? = some u → wr.cell? (a.add j) = some u) (hl : N + m ≤ 1048576) (hm0 : 0 < m) :
    ∃ T' w', (Builtin.append_ #[42, 42] ty #[T, .slice (some a) m c]).run Try.prog wr = .ok T' w' ∧ SpS w w' S n bx v ∧ SpT w w' S n bx T' (N + m) := by
  obtain ⟨zs, hz, ho⟩ := h.own
  have ho' : wr.ownsRow 0 47 5 T N (zs.flatMap c5) := by have := ho; unfold OwnF at this; rw [hz] at this; exact this
  obtain ⟨T', w', hr, h2, h3⟩ := app_two (c := c) ty ho' a hm hc hl hm0 (Nat.zero_le _)
  have hlen : (zs ++ ys).length = N + m := by rw [List.length_append, hz, hm]
  have hown : OwnF w' 0 T' (zs ++ ys) := by unfold OwnF; rw [hlen]; exact h2
  have hbxl : bx < wr.heap.size := World.block_lt_of_cell? _ _ hS.b0
  refine ⟨T', w', hr, ?_, ⟨zs ++ ys, hlen, hown⟩, ?_⟩
  · rcases h3 with ⟨g, cap, e1, e2, hg⟩ | ⟨_, hb⟩
    · rcases h.rel with ⟨g', cap', e3, e4, hn⟩ | hnew
      · rw [e1] at e4
        cases e4
        have hgl := hS.lt g (by rw [e3]; rfl)
        have hgb : bx ≠ g := by have := hS.bn; omega
        have hcell : ∀ (j : Nat) (u : Value), wr.cell? ⟨bx, j, none⟩ = some u → w'.cell? ⟨bx, j, none⟩ = some u := fun j u hu => by
          rw [← hu]; unfold World.cell?
          rw [hg.block bx hbxl fun e => hgb (by injection e)]
        rw [e2] at h2
        refine ⟨⟨(zs ++ ys).take n, by rw [List.length_take]; omega, ?_⟩, grownBy_after hS.gr hg fun q hq => .inl (by rw [e3]; exact hq), hcell _ _ hS.b0, hcell _ _ hS.b1, hcell _ _ hS.b2, hcell _ _ hS.b3, hcell _ _ hS.b4, hS.bn, hS.lt⟩
        rw [e3]
        exact own_pre h2 (by omega) hlen
      · exact hS.other hg fun q hq => hnew q (by rw [e1]; exact hq)
    · exact hS.later hb
  · rcases h3 with ⟨g, cap, e1, e2, hg⟩ | ⟨hnew, hb⟩
    · rcases h.rel with ⟨g', cap', e3, e4, hn⟩ | hnew
      · rw [e1] at e4
        cases e4
        exact .inl ⟨g, cap, e3, e2, by omega⟩
      · exact .inr fun q hq => hnew q (by rw [e1]; rw [e2] at hq; exact hq)
    · refine .inr fun q hq => ?_
      have h7 := hnew q hq
      have h8 := hS.gr.size
      exact ⟨by omega, by omega⟩
end Go.Proofs.Ytgmfbjehdcdioaa
