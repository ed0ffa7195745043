import Derived.Test.YtfnacpkodfhfoadPaA
set_option linter.unusedSimpArgs false
set_option linter.unusedVariables false
namespace Go.Proofs.Ytfnacpkodfhfoad
open Go.RowKit Go.Sort

set_option maxHeartbeats 400000 in
theorem constant_any (v : Val) (w : World) : Calls Try.prog 92 #[v.v] w fun r w' => r = .returned ((Ex.mk 2 0 v []).val none 0) ∧ Below w.heap.size w w' := by
  rw [Val.open_]
  go_enter Try.func92, Try.ntmps92
  go_wp2
  refine bodyPost_ret (v := (Ex.mk 2 0 v []).val none 0) (by simp [results, Try.results92, go_sem, Ex.val, Ex.op, Ex.n, Ex.v, Ex.args]) rfl ?_
  exact ⟨rfl, by first | exact Below.refl _ _ | exact below_alloc (Below.refl _ _) _ | exact below_alloc (below_alloc (Below.refl _ _) _) _⟩
/-- A node's box of its own: what is in it, and that it may be written. -/
def Box6 (w : World) (b : Nat) (e : Ex) (a : Option Addr) (c : Nat) : Prop := Six w b e a c ∧ (w.frozen? ⟨b, 0, none⟩ = false ∧ w.frozen? ⟨b, 1, none⟩ = false ∧ w.frozen? ⟨b, 2, none⟩ = false ∧ w.frozen? ⟨b, 3, none⟩ = false ∧ w.frozen? ⟨b, 4, none⟩ = false ∧ w.frozen? ⟨b, 5, none⟩ = false)
theorem Box6.later {w w1 : World} {b : Nat} {e : Ex} {a : Option Addr} {c : Nat} (h : Box6 w b e a c) (hb : Below w.heap.size w w1) : Box6 w1 b e a c := by
  obtain ⟨h0, f0, f1, f2, f3, f4, f5⟩ := h
  obtain ⟨hc, hf⟩ := bcell hb
  have hl : b < w.heap.size := World.block_lt_of_cell? w _ h0.1
  refine ⟨h0.later hb, ?_⟩
  rw [hf _ _ hl, hf _ _ hl, hf _ _ hl, hf _ _ hl, hf _ _ hl, hf _ _ hl]
  exact ⟨f0, f1, f2, f3, f4, f5⟩
theorem Box6.new (w : World) (e : Ex) (a : Option Addr) (c : Nat) : Box6 (w.alloc (e.box a c)) w.heap.size e a c := ⟨Six.new w e a c, by simp [go_sem], by simp [go_sem], by simp [go_sem], by simp [go_sem], by simp [go_sem], by simp [go_sem]⟩
/-- The expression that is none. -/
abbrev zeroE : Ex := .mk 0 0 .null []
theorem put6 {w W : World} {B : Nat} (hb : Below w.heap.size w W) (hB : w.heap.size ≤ B) (u0 u1 u2 u3 u4 u5 : Value) : Below w.heap.size w ((((((W.setCell ⟨B, 0, none⟩ u0).setCell ⟨B, 1, none⟩ u1).setCell ⟨B, 2, none⟩ u2).setCell ⟨B, 3, none⟩ u3).setCell ⟨B, 4, none⟩ u4).setCell ⟨B, 5, none⟩ u5) :=
  ((((((hb.setCell (by simpa using hB) _).setCell (by simpa using hB) _).setCell (by simpa using hB) _).setCell (by simpa using hB) _).setCell (by simpa using hB) _).setCell (by simpa using hB) _)
set_option maxHeartbeats 400000 in
/-- needed (60). -/
theorem needed_any (e : Ex) (a : Option Addr) (c : Nat) (w : World) : Calls Try.prog 60 #[e.val a c] w fun r w' => r = .returned ((needE e).val none 0) ∧ Below w.heap.size w w' := by
  have HC := hide (fun W => clean_any e.v W)
  have HK := hide (fun W => constant_any (cleanV e.v) W)
  have HB := hide (below_alloc (Below.refl _ w) (.cells #[.int .i64 e.op, .int .i64 e.n, .int .i64 e.v.k, .int .i64 e.v.n, .string e.v.s, .slice a e.args.length c] 26))
  have H6 : Hid (Six (w.alloc (.cells #[.int .i64 e.op, .int .i64 e.n, .int .i64 e.v.k, .int .i64 e.v.n, .string e.v.s, .slice a e.args.length c] 26)) w.heap.size e a c) := Six.new w e a c
  obtain ⟨R, hR⟩ : ∃ R, R = (needE e).val none 0 := ⟨_, rfl⟩
  rw [← hR]
  by_cases h1 : e.op = 1
  · have hR2 : R = .agg #[.int .i64 1, .int .i64 e.n, .int .i64 0, .int .i64 0, .string ⟨#[]⟩, .slice none 0 0] := by rw [hR, show needE e = .mk 1 e.n .null [] by unfold needE; rw [h1]; rfl]; rfl
    subst hR2
    clear hR
    rw [Ex.val_open, h1]
    rw [h1] at HB
    go_enter Try.func60, Try.ntmps60
    go_wp2
    refine bodyPost_ret (v := .agg #[.int .i64 1, .int .i64 e.n, .int .i64 0, .int .i64 0, .string ⟨#[]⟩, .slice none 0 0]) (by simp [results, Try.results60, go_sem]) rfl ?_
    exact ⟨rfl, below_alloc (unhide HB) _⟩
  by_cases h2 : e.op = 2
  · have hR2 : R = (Ex.mk 2 0 (cleanV e.v) []).val none 0 := by rw [hR, show needE e = .mk 2 0 (cleanV e.v) [] by unfold needE; rw [h2]; rfl]
    subst hR2
    clear hR h1
    rw [Ex.val_open, h2]
    rw [h2] at HB
    rw [Val.open_] at HC
    have HB2 := hide (below_alloc (unhide HB) (zeroE.box none 0))
    have HZ := hide (Box6.new (w.alloc (.cells #[.int .i64 2, .int .i64 e.n, .int .i64 e.v.k, .int .i64 e.v.n, .string e.v.s, .slice a e.args.length c] 26)) zeroE none 0)
    have hsz : (w.alloc (.cells #[.int .i64 2, .int .i64 e.n, .int .i64 e.v.k, .int .i64 e.v.n, .string e.v.s, .slice a e.args.length c] 26)).heap.size = w.heap.size + 1 := by simp [go_sem]
    rw [hsz] at HZ
    clear hsz
    generalize cleanV e.v = cv at *
    go_enter Try.func60, Try.ntmps60
    go_wp2_with (first
      | (go_at_call 50; refine (unhide HC _).mono ?_; rintro r w1 ⟨rfl, hb1⟩)
      | (go_at_call 92; refine (unhide HK _).mono ?_; rintro r w2 ⟨rfl, hb2⟩; obtain ⟨⟨z0, z1, z2, z3, z4, z5⟩, f0, f1, f2, f3, f4, f5⟩ := (unhide HZ).later (below_step hb1 hb2); rw [Ex.val_open]))
    refine bodyPost_ret (v := (Ex.mk 2 0 cv []).val none 0) (by simp [results, Try.results60, go_sem, Ex.val, Ex.op, Ex.n, Ex.v, Ex.args, *]) rfl ?_
    exact ⟨rfl, put6 (below_step (below_step (unhide HB2) hb1) hb2) (by omega) _ _ _ _ _ _⟩
  · have e1 : (e.op == 1) = false := by simpa using h1
    have e2 : (e.op == 2) = false := by simpa using h2
    have hR2 : R = .agg #[.int .i64 e.op, .int .i64 0, .int .i64 0, .int .i64 0, .string ⟨#[]⟩, .slice none 0 0] := by rw [hR, show needE e = .mk e.op 0 .null [] by unfold needE; rw [e1, e2]; rfl]; rfl
    subst hR2
    clear hR e1 e2
    rw [Ex.val_open]
    go_enter Try.func60, Try.ntmps60
    go_wp2
    refine bodyPost_ret (v := .agg #[.int .i64 e.op, .int .i64 0, .int .i64 0, .int .i64 0, .string ⟨#[]⟩, .slice none 0 0]) (by simp [results, Try.results60, go_sem]) rfl ?_
    exact ⟨rfl, below_alloc (unhide HB) _⟩
end Go.Proofs.Ytfnacpkodfhfoad
