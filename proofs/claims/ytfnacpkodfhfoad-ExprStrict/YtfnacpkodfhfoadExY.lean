import Derived.Test.YtfnacpkodfhfoadExX
import Derived.Maps.AppendAt
import Derived.Laws.AppendOwnNone
set_option linter.unusedSimpArgs false
set_option linter.unusedVariables false
namespace Go.Proofs.Ytfnacpkodfhfoad
open Go.RowKit Go.Sort

theorem info23 : (Try.prog.info? 23).map (fun i => (i.zero, i.size, i.bytes)) = some (some (.agg #[.int .i64 0, .int .i64 0, .string ⟨#[]⟩]), 3, 32) := by kernel_rfl
theorem row_cells_any {w : World} {ad : Addr} {xs : List Val} (h : RowAt w (some ad) xs) : ∀ j u, (xs.flatMap c3)[j]? = some u → w.cell? (ad.add j) = some u := by
  rcases h with h0 | ⟨b, off, e, h⟩
  · subst h0
    intro j u hj
    simp at hj
  · injection e with e
    subst e
    exact row_cells (.inr ⟨b, off, rfl, h⟩)
/-- append([]Value{}, row...): a row of its own. -/
theorem wpList_copy_row {ops : Array Oper} {rest : List Oper} {o : Oper} {a : Act} {Q : Exit → Act → World → Prop} (w : World) (hgd : o.guard = none) (s x : Operand) (ho : o.op = .call { callee := .builtin .append, args := #[s, x], argTypes := #[28, 28] })
    (base g : Nat) (hs : a.eval s = .slice (some ⟨g, 0, none⟩) 0 0) (hg : w.heap[g]? = some (.cells #[] 23 (0, 0))) (hbg : base ≤ g) (hgw : g < w.heap.size)
    (aR : Option Addr) (cR : Nat) (row : List Val) (hx : a.eval x = .slice aR row.length cR) (hr : RowAt w aR row) (hn : aR = none → row = [] ∧ cR = 0) (hl : row.length ≤ 4398046511104)
    (h : ∀ v' w', OwnV w' base v' row → Below base w w' → wpList Try.prog ops Q rest (a.put o.dst v') w') : wpList Try.prog ops Q (o :: rest) a w := by
  obtain ⟨i4, hi4, z40, z41, z42⟩ := info_parts info23
  have hown : w.ownsRow base 23 3 (.slice (some ⟨g, 0, none⟩) 0 0) 0 [] := ⟨rfl, .inr ⟨g, 0, #[], rfl, hbg, hg, Nat.le_refl _, Nat.zero_le _, rfl, rfl⟩⟩
  cases aR with
  | none =>
    obtain ⟨rfl, rfl⟩ := hn rfl
    exact wpList_append_own_none hgd s x 28 ho base 23 i4 3 Try.underlying28 hi4 _ 0 [] hs hown hx (h _ w hown (Below.refl _ _))
  | some ad =>
    refine wpList_append_own_at w hgd s x 28 ho base 23 i4 (.agg #[.int .i64 0, .int .i64 0, .string ⟨#[]⟩]) 3 32 Try.underlying28 hi4 z40 z41 z42 rfl (by decide) _ 0 [] hs hown ad row.length cR (row.flatMap c3) hx (flat_len row) (row_cells_any hr) (c3_all row) (by unfold maxLen; omega) (by omega) (by omega) ?_
    intro v' w' h1 h2 _ _
    refine h v' w' ?_ (grown_below (B := base) h2 (by omega) (fun g' hg' => by simp [Value.ownBlock] at hg'; omega))
    unfold OwnV
    simpa using h1
end Go.Proofs.Ytfnacpkodfhfoad
