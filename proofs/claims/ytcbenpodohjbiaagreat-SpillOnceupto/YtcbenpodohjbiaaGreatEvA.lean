import Derived.Test.YtcbenpodohjbiaaGreatPlA
import Derived.Test.YtcbenpodohjbiaaGreatOwnA
import Derived.Deep.OwnRows
import Derived.Maps.AppendAt
import Derived.Deep.AppendLies
import Derived.Laws.AppendOwnNone
set_option linter.unusedSimpArgs false
set_option linter.unusedVariables false
namespace Go.Proofs.YtcbenpodohjbiaaGreat
open Go.RowKit Go.Sort

def c3 (x : Val) : List Value := [.int .i64 x.k, .int .i64 x.n, .string x.s]
/-- The slice of values v, a row of the call's own, holds xs. -/
def OwnV (w : World) (base : Nat) (v : Value) (xs : List Val) : Prop := w.ownsRow base 73 3 v xs.length (xs.flatMap c3)
theorem OwnV.later {w w1 : World} {base : Nat} {v : Value} {xs : List Val} (h : OwnV w base v xs) (hb : Below w.heap.size w w1) : OwnV w1 base v xs := own_later h hb
theorem flat_at : ∀ (zs : List Val) (i j : Nat) (x : Val), zs[i]? = some x → j < 3 → (zs.flatMap c3)[i * 3 + j]? = (c3 x)[j]?
  | [], i, j, x, h, _ => by simp at h
  | z :: zs, 0, j, x, h, hj => by
    simp at h
    subst h
    rw [List.flatMap_cons, List.getElem?_append_left (by simp [c3]; omega)]
    simp
  | z :: zs, i + 1, j, x, h, hj => by
    have ih := flat_at zs i j x (by simpa using h) hj
    rw [List.flatMap_cons, List.getElem?_append_right (by simp [c3]; omega)]
    rw [← ih]
    congr 1
    simp [c3]
    omega
theorem flat_len (zs : List Val) : (zs.flatMap c3).length = zs.length * 3 := by
  induction zs with
  | nil => rfl
  | cons z zs ih => rw [List.flatMap_cons, List.length_append, ih]; simp [c3]; omega
theorem ownV_row {w : World} {base : Nat} {v : Value} {zs : List Val} (h : OwnV w base v zs) : ∃ a cap, v = .slice a zs.length cap ∧ RowAt w a zs := by
  rcases h.2 with ⟨rfl, h0⟩ | ⟨g, cap, cur, rfl, _⟩
  · have : zs = [] := List.eq_nil_of_length_eq_zero h0
    subst this
    exact ⟨none, 0, rfl, .inl rfl⟩
  · refine ⟨_, cap, rfl, .inr ⟨g, 0, rfl, fun i x hx => ?_⟩⟩
    have hc := World.ownsRow.cells h rfl
    have ea : ∀ n : Nat, (⟨g, 0, none⟩ : Addr).add n = ⟨g, 0 + n, none⟩ := by
      intro n
      by_cases h : n = 0 <;> simp [Addr.add, h]
    have e0 := hc (i * 3 + 0) _ (flat_at zs i 0 x hx (by omega))
    have e1 := hc (i * 3 + 1) _ (flat_at zs i 1 x hx (by omega))
    have e2 := hc (i * 3 + 2) _ (flat_at zs i 2 x hx (by omega))
    rw [ea] at e0 e1 e2
    exact ⟨by simpa using e0, by simpa [Nat.add_assoc] using e1, by simpa [Nat.add_assoc] using e2⟩
theorem c3_one (y : Val) : ∀ u ∈ c3 y, u.oneCell' = true := by
  intro u hu; simp [c3] at hu; rcases hu with rfl | rfl | rfl <;> rfl
theorem c3_all (xs : List Val) : ∀ u ∈ xs.flatMap c3, u.oneCell' = true := by
  intro u hu
  obtain ⟨x, _, hx⟩ := List.mem_flatMap.1 hu
  exact c3_one x u hx
theorem row_cells {w : World} {b off : Nat} {xs : List Val} (h : RowAt w (some ⟨b, off, none⟩) xs) : ∀ j u, (xs.flatMap c3)[j]? = some u → w.cell? ((⟨b, off, none⟩ : Addr).add j) = some u := by
  intro j u hj
  rw [Addr.add_lit]
  have hlt : j < xs.length * 3 := by rw [← flat_len]; exact (List.getElem?_eq_some_iff.1 hj).1
  obtain ⟨x, hx⟩ : ∃ x, xs[j / 3]? = some x := ⟨_, List.getElem?_eq_getElem (by omega)⟩
  have hf := flat_at xs (j / 3) (j % 3) x hx (by omega)
  rw [show j / 3 * 3 + j % 3 = j by omega, hj] at hf
  rcases h with h | ⟨b', off', e, h⟩
  · subst h; simp at hlt
  · injection e with e
    injection e with e1 e2
    subst e1 e2
    obtain ⟨h0, h1, h2⟩ := h (j / 3) x hx
    have h3 : j % 3 = 0 ∨ j % 3 = 1 ∨ j % 3 = 2 := by omega
    rcases h3 with h3 | h3 | h3 <;> rw [h3] at hf <;> simp [c3] at hf <;> subst hf
    · rw [show off + j = off + j / 3 * 3 by omega]; exact h0
    · rw [show off + j = off + j / 3 * 3 + 1 by omega]; exact h1
    · rw [show off + j = off + j / 3 * 3 + 2 by omega]; exact h2
theorem flat_set : ∀ (L : List Val) (j : Nat) (x : Val), j < L.length → (((L.flatMap c3).set (j * 3) (.int .i64 x.k)).set (j * 3 + 1) (.int .i64 x.n)).set (j * 3 + 2) (.string x.s) = (L.set j x).flatMap c3
  | [], j, x, h => by simp at h
  | z :: L, 0, x, _ => by simp [c3]
  | z :: L, j + 1, x, h => by
    have ih := flat_set L j x (by simpa using h)
    rw [List.set_cons_succ, List.flatMap_cons, List.flatMap_cons, ← ih]
    simp only [c3, List.cons_append, List.nil_append]
    rw [show (j + 1) * 3 = j * 3 + 1 + 1 + 1 by omega, show j * 3 + 1 + 1 + 1 + 1 = (j * 3 + 1) + 1 + 1 + 1 by omega, show j * 3 + 1 + 1 + 1 + 2 = (j * 3 + 2) + 1 + 1 + 1 by omega]
    simp only [List.set_cons_succ]
theorem OwnV.put {w : World} {base g N cap j : Nat} {L : List Val} (h : OwnV w base (.slice (some ⟨g, 0, none⟩) N cap) L) (hj : j < L.length) (x : Val) :
    OwnV (((w.setCell ⟨g, j * 3, none⟩ (.int .i64 x.k)).setCell ⟨g, j * 3 + 1, none⟩ (.int .i64 x.n)).setCell ⟨g, j * 3 + 2, none⟩ (.string x.s)) base (.slice (some ⟨g, 0, none⟩) N cap) (L.set j x) := by
  have hN : N = L.length := by
    rcases h.2 with ⟨e, _⟩ | ⟨g', cap', cur, e, _⟩
    · cases e
    · injection e
  subst hN
  have h1 := (World.ownsRow.stored h (j * 3) (.int .i64 x.k)).1
  have h2 := (World.ownsRow.stored h1 (j * 3 + 1) (.int .i64 x.n)).1
  have h3 := (World.ownsRow.stored h2 (j * 3 + 2) (.string x.s)).1
  rw [flat_set L j x hj] at h3
  unfold OwnV
  rw [List.length_set]
  exact h3
theorem OwnV.len {w : World} {base g N cap : Nat} {L : List Val} (h : OwnV w base (.slice (some ⟨g, 0, none⟩) N cap) L) : N = L.length := by
  rcases h.2 with ⟨e, _⟩ | ⟨g', cap', cur, e, _⟩
  · cases e
  · injection e
theorem info23 : (Tryz.prog.info? 73).map (fun i => (i.zero, i.size, i.bytes)) = some (some (.agg #[.int .i64 0, .int .i64 0, .string ⟨#[]⟩]), 3, 32) := by kernel_rfl
theorem ownV_ge {w : World} {base : Nat} {v : Value} {L : List Val} (h : OwnV w base v L) : ∀ g, v.ownBlock = some g → base ≤ g := by
  intro g hg
  rcases h.2 with ⟨rfl, _⟩ | ⟨g', cap, cur, rfl, hb, _⟩
  · cases hg
  · simp [Value.ownBlock] at hg
    omega
/-- append(l, y), where y stands in a list of one that was made for it. -/
theorem wpList_push_val {ops : Array Oper} {rest : List Oper} {o : Oper} {a : Act} {Q : Exit → Act → World → Prop} (w : World) (hgd : o.guard = none) (s x : Operand) (ho : o.op = .call { callee := .builtin .append, args := #[s, x], argTypes := #[70, 70] })
    (base : Nat) (v : Value) (L : List Val) (hs : a.eval s = v) (hown : OwnV w base v L) (t : Nat) (y : Val) (hx : a.eval x = .slice (some ⟨t, 0, none⟩) 1 1) (hy : BoxAt w t y) (hl : L.length + 1 ≤ 4398046511104) (hbase : base ≤ w.heap.size)
    (h : ∀ v' w', OwnV w' base v' (L ++ [y]) → Below base w w' → wpList Tryz.prog ops Q rest (a.put o.dst v') w') : wpList Tryz.prog ops Q (o :: rest) a w := by
  obtain ⟨i4, hi4, z40, z41, z42⟩ := info_parts info23
  have hr : RowAt w (some ⟨t, 0, none⟩) [y] := .inr ⟨t, 0, rfl, fun i z hz => by
    match i, hz with
    | 0, hz =>
      simp at hz
      subst hz
      exact ⟨by simpa using hy.1, by simpa using hy.2.1, by simpa using hy.2.2⟩⟩
  refine wpList_append_own_at w hgd s x 70 ho base 73 i4 (.agg #[.int .i64 0, .int .i64 0, .string ⟨#[]⟩]) 3 32 Tryz.underlying70 hi4 z40 z41 z42 rfl (by decide) v L.length (L.flatMap c3) hs hown ⟨t, 0, none⟩ 1 1 ([y].flatMap c3) hx (flat_len [y]) (row_cells hr) (c3_all [y]) (by unfold maxLen; omega) (by omega) hbase ?_
  intro v' w' h1 h2 _ _
  refine h v' w' ?_ (grown_below h2 hbase (ownV_ge hown))
  unfold OwnV
  rw [List.length_append, List.flatMap_append]
  exact h1
theorem map_take {α β : Type} (f : α → β) {l : List α} {k : Nat} {x : α} (h : l[k]? = some x) : (l.take (k + 1)).map f = (l.take k).map f ++ [f x] := by
  rw [List.take_add_one, h, List.map_append]
  rfl

end Go.Proofs.YtcbenpodohjbiaaGreat
