import Derived.Test.YtcpndojkfngioaaGreatPlH
set_option linter.unusedSimpArgs false
set_option linter.unusedVariables false
namespace Go.Proofs.YtcpndojkfngioaaGreat
open Go.RowKit Go.Sort

def exN (op : Int) : Bool := op == 2 || op == 3 || op == 4 || op == 5
def colN (op : Int) : Bool := op == 6 || op == 10 || op == 12
def keyN (op : Int) : Bool := op == 9 || op == 10
/-- What an operator needs of a plan, beside Args. -/
def ndP (p : Pl) : Pl := .mk 0 (if p.op == 1 then p.tab else ⟨#[]⟩) (if exN p.op then p.ex else []) (if colN p.op then p.cols else []) (if keyN p.op then p.keys else []) (if p.op == 6 then p.aggs else []) (if p.op == 10 then p.fn else 0) (if p.op == 10 then p.col else 0) (if keyN p.op then p.n else 0) (if p.op == 9 then p.off else 0) []
def ndM (p : Pl) (m : Pm) : Pm := ⟨if exN p.op then m.aE else none, if exN p.op then m.cE else 0, if colN p.op then m.aC else none, if colN p.op then m.cC else 0, if keyN p.op then m.aK else none, if keyN p.op then m.cK else 0, if p.op == 6 then m.aA else none, if p.op == 6 then m.cA else 0, none, 0⟩
theorem no_op {op : Int} (h : ¬ (op = 1 ∨ op = 2 ∨ op = 3 ∨ op = 4 ∨ op = 5 ∨ op = 6 ∨ op = 9 ∨ op = 10 ∨ op = 12)) : (op == 1) = false ∧ (op == 2) = false ∧ (op == 3) = false ∧ (op == 4) = false ∧ (op == 5) = false ∧ (op == 6) = false ∧ (op == 9) = false ∧ (op == 10) = false ∧ (op == 12) = false := by
  refine ⟨?_, ?_, ?_, ?_, ?_, ?_, ?_, ?_, ?_⟩ <;> simp <;> omega
set_option maxHeartbeats 2000000 in
set_option maxRecDepth 100000 in
/-- needed of plan (105). -/
theorem needP_any (p : Pl) (m : Pm) (w : World) : Calls Tryz.prog 105 #[p.val m] w fun r w' => r = .returned ((ndP p).val (ndM p m)) ∧ Below w.heap.size w w' := by
  obtain ⟨R, hR⟩ : ∃ R, R = (ndP p).val (ndM p m) := ⟨_, rfl⟩
  rw [← hR]
  rw [Pl.val_open]
  by_cases h1 : p.op = 1
  · have hR2 : R = .agg #[.int .i64 0, .string p.tab, .slice none 0 0, .slice none 0 0, .slice none 0 0, .slice none 0 0, .int .i64 0, .int .i64 0, .int .i64 0, .int .i64 0, .slice none 0 0] := by rw [hR]; unfold Pl.val ndP ndM exN colN keyN; rw [h1]; rfl
    subst hR2
    rw [h1]
    have HB := hide (below_alloc (Below.refl _ w) (.cells #[.int .i64 1, .string p.tab, .slice m.aE p.ex.length m.cE, .slice m.aC p.cols.length m.cC, .slice m.aK p.keys.length m.cK, .slice m.aA p.aggs.length m.cA, .int .i64 p.fn, .int .i64 p.col, .int .i64 p.n, .int .i64 p.off, .slice m.aP p.args.length m.cP] 28))
    clear hR
    go_enter Tryz.func105, Tryz.ntmps105
    go_wp2
    exact bodyPost_ret (v := .agg #[.int .i64 0, .string p.tab, .slice none 0 0, .slice none 0 0, .slice none 0 0, .slice none 0 0, .int .i64 0, .int .i64 0, .int .i64 0, .int .i64 0, .slice none 0 0]) (by simp [results, Tryz.results105, go_sem]) rfl ⟨rfl, below_alloc (unhide HB) _⟩
  by_cases h2 : p.op = 2
  · have hR2 : R = .agg #[.int .i64 0, .string ⟨#[]⟩, .slice m.aE p.ex.length m.cE, .slice none 0 0, .slice none 0 0, .slice none 0 0, .int .i64 0, .int .i64 0, .int .i64 0, .int .i64 0, .slice none 0 0] := by rw [hR]; unfold Pl.val ndP ndM exN colN keyN; rw [h2]; rfl
    subst hR2
    rw [h2]
    have HB := hide (below_alloc (Below.refl _ w) (.cells #[.int .i64 2, .string p.tab, .slice m.aE p.ex.length m.cE, .slice m.aC p.cols.length m.cC, .slice m.aK p.keys.length m.cK, .slice m.aA p.aggs.length m.cA, .int .i64 p.fn, .int .i64 p.col, .int .i64 p.n, .int .i64 p.off, .slice m.aP p.args.length m.cP] 28))
    clear hR
    go_enter Tryz.func105, Tryz.ntmps105
    go_wp2
    exact bodyPost_ret (v := .agg #[.int .i64 0, .string ⟨#[]⟩, .slice m.aE p.ex.length m.cE, .slice none 0 0, .slice none 0 0, .slice none 0 0, .int .i64 0, .int .i64 0, .int .i64 0, .int .i64 0, .slice none 0 0]) (by simp [results, Tryz.results105, go_sem]) rfl ⟨rfl, below_alloc (unhide HB) _⟩
  by_cases h3 : p.op = 3
  · have hR2 : R = .agg #[.int .i64 0, .string ⟨#[]⟩, .slice m.aE p.ex.length m.cE, .slice none 0 0, .slice none 0 0, .slice none 0 0, .int .i64 0, .int .i64 0, .int .i64 0, .int .i64 0, .slice none 0 0] := by rw [hR]; unfold Pl.val ndP ndM exN colN keyN; rw [h3]; rfl
    subst hR2
    rw [h3]
    have HB := hide (below_alloc (Below.refl _ w) (.cells #[.int .i64 3, .string p.tab, .slice m.aE p.ex.length m.cE, .slice m.aC p.cols.length m.cC, .slice m.aK p.keys.length m.cK, .slice m.aA p.aggs.length m.cA, .int .i64 p.fn, .int .i64 p.col, .int .i64 p.n, .int .i64 p.off, .slice m.aP p.args.length m.cP] 28))
    clear hR
    go_enter Tryz.func105, Tryz.ntmps105
    go_wp2
    exact bodyPost_ret (v := .agg #[.int .i64 0, .string ⟨#[]⟩, .slice m.aE p.ex.length m.cE, .slice none 0 0, .slice none 0 0, .slice none 0 0, .int .i64 0, .int .i64 0, .int .i64 0, .int .i64 0, .slice none 0 0]) (by simp [results, Tryz.results105, go_sem]) rfl ⟨rfl, below_alloc (unhide HB) _⟩
  by_cases h4 : p.op = 4
  · have hR2 : R = .agg #[.int .i64 0, .string ⟨#[]⟩, .slice m.aE p.ex.length m.cE, .slice none 0 0, .slice none 0 0, .slice none 0 0, .int .i64 0, .int .i64 0, .int .i64 0, .int .i64 0, .slice none 0 0] := by rw [hR]; unfold Pl.val ndP ndM exN colN keyN; rw [h4]; rfl
    subst hR2
    rw [h4]
    have HB := hide (below_alloc (Below.refl _ w) (.cells #[.int .i64 4, .string p.tab, .slice m.aE p.ex.length m.cE, .slice m.aC p.cols.length m.cC, .slice m.aK p.keys.length m.cK, .slice m.aA p.aggs.length m.cA, .int .i64 p.fn, .int .i64 p.col, .int .i64 p.n, .int .i64 p.off, .slice m.aP p.args.length m.cP] 28))
    clear hR
    go_enter Tryz.func105, Tryz.ntmps105
    go_wp2
    exact bodyPost_ret (v := .agg #[.int .i64 0, .string ⟨#[]⟩, .slice m.aE p.ex.length m.cE, .slice none 0 0, .slice none 0 0, .slice none 0 0, .int .i64 0, .int .i64 0, .int .i64 0, .int .i64 0, .slice none 0 0]) (by simp [results, Tryz.results105, go_sem]) rfl ⟨rfl, below_alloc (unhide HB) _⟩
  by_cases h5 : p.op = 5
  · have hR2 : R = .agg #[.int .i64 0, .string ⟨#[]⟩, .slice m.aE p.ex.length m.cE, .slice none 0 0, .slice none 0 0, .slice none 0 0, .int .i64 0, .int .i64 0, .int .i64 0, .int .i64 0, .slice none 0 0] := by rw [hR]; unfold Pl.val ndP ndM exN colN keyN; rw [h5]; rfl
    subst hR2
    rw [h5]
    have HB := hide (below_alloc (Below.refl _ w) (.cells #[.int .i64 5, .string p.tab, .slice m.aE p.ex.length m.cE, .slice m.aC p.cols.length m.cC, .slice m.aK p.keys.length m.cK, .slice m.aA p.aggs.length m.cA, .int .i64 p.fn, .int .i64 p.col, .int .i64 p.n, .int .i64 p.off, .slice m.aP p.args.length m.cP] 28))
    clear hR
    go_enter Tryz.func105, Tryz.ntmps105
    go_wp2
    exact bodyPost_ret (v := .agg #[.int .i64 0, .string ⟨#[]⟩, .slice m.aE p.ex.length m.cE, .slice none 0 0, .slice none 0 0, .slice none 0 0, .int .i64 0, .int .i64 0, .int .i64 0, .int .i64 0, .slice none 0 0]) (by simp [results, Tryz.results105, go_sem]) rfl ⟨rfl, below_alloc (unhide HB) _⟩
  by_cases h6 : p.op = 6
  · have hR2 : R = .agg #[.int .i64 0, .string ⟨#[]⟩, .slice none 0 0, .slice m.aC p.cols.length m.cC, .slice none 0 0, .slice m.aA p.aggs.length m.cA, .int .i64 0, .int .i64 0, .int .i64 0, .int .i64 0, .slice none 0 0] := by rw [hR]; unfold Pl.val ndP ndM exN colN keyN; rw [h6]; rfl
    subst hR2
    rw [h6]
    have HB := hide (below_alloc (Below.refl _ w) (.cells #[.int .i64 6, .string p.tab, .slice m.aE p.ex.length m.cE, .slice m.aC p.cols.length m.cC, .slice m.aK p.keys.length m.cK, .slice m.aA p.aggs.length m.cA, .int .i64 p.fn, .int .i64 p.col, .int .i64 p.n, .int .i64 p.off, .slice m.aP p.args.length m.cP] 28))
    clear hR
    go_enter Tryz.func105, Tryz.ntmps105
    go_wp2
    exact bodyPost_ret (v := .agg #[.int .i64 0, .string ⟨#[]⟩, .slice none 0 0, .slice m.aC p.cols.length m.cC, .slice none 0 0, .slice m.aA p.aggs.length m.cA, .int .i64 0, .int .i64 0, .int .i64 0, .int .i64 0, .slice none 0 0]) (by simp [results, Tryz.results105, go_sem]) rfl ⟨rfl, below_alloc (unhide HB) _⟩
  by_cases h9 : p.op = 9
  · have hR2 : R = .agg #[.int .i64 0, .string ⟨#[]⟩, .slice none 0 0, .slice none 0 0, .slice m.aK p.keys.length m.cK, .slice none 0 0, .int .i64 0, .int .i64 0, .int .i64 p.n, .int .i64 p.off, .slice none 0 0] := by rw [hR]; unfold Pl.val ndP ndM exN colN keyN; rw [h9]; rfl
    subst hR2
    rw [h9]
    have HB := hide (below_alloc (Below.refl _ w) (.cells #[.int .i64 9, .string p.tab, .slice m.aE p.ex.length m.cE, .slice m.aC p.cols.length m.cC, .slice m.aK p.keys.length m.cK, .slice m.aA p.aggs.length m.cA, .int .i64 p.fn, .int .i64 p.col, .int .i64 p.n, .int .i64 p.off, .slice m.aP p.args.length m.cP] 28))
    clear hR
    go_enter Tryz.func105, Tryz.ntmps105
    go_wp2
    exact bodyPost_ret (v := .agg #[.int .i64 0, .string ⟨#[]⟩, .slice none 0 0, .slice none 0 0, .slice m.aK p.keys.length m.cK, .slice none 0 0, .int .i64 0, .int .i64 0, .int .i64 p.n, .int .i64 p.off, .slice none 0 0]) (by simp [results, Tryz.results105, go_sem]) rfl ⟨rfl, below_alloc (unhide HB) _⟩
  by_cases h10 : p.op = 10
  · have hR2 : R = .agg #[.int .i64 0, .string ⟨#[]⟩, .slice none 0 0, .slice m.aC p.cols.length m.cC, .slice m.aK p.keys.length m.cK, .slice none 0 0, .int .i64 p.fn, .int .i64 p.col, .int .i64 p.n, .int .i64 0, .slice none 0 0] := by rw [hR]; unfold Pl.val ndP ndM exN colN keyN; rw [h10]; rfl
    subst hR2
    rw [h10]
    have HB := hide (below_alloc (Below.refl _ w) (.cells #[.int .i64 10, .string p.tab, .slice m.aE p.ex.length m.cE, .slice m.aC p.cols.length m.cC, .slice m.aK p.keys.length m.cK, .slice m.aA p.aggs.length m.cA, .int .i64 p.fn, .int .i64 p.col, .int .i64 p.n, .int .i64 p.off, .slice m.aP p.args.length m.cP] 28))
    clear hR
    go_enter Tryz.func105, Tryz.ntmps105
    go_wp2
    exact bodyPost_ret (v := .agg #[.int .i64 0, .string ⟨#[]⟩, .slice none 0 0, .slice m.aC p.cols.length m.cC, .slice m.aK p.keys.length m.cK, .slice none 0 0, .int .i64 p.fn, .int .i64 p.col, .int .i64 p.n, .int .i64 0, .slice none 0 0]) (by simp [results, Tryz.results105, go_sem]) rfl ⟨rfl, below_alloc (unhide HB) _⟩
  by_cases h12 : p.op = 12
  · have hR2 : R = .agg #[.int .i64 0, .string ⟨#[]⟩, .slice none 0 0, .slice m.aC p.cols.length m.cC, .slice none 0 0, .slice none 0 0, .int .i64 0, .int .i64 0, .int .i64 0, .int .i64 0, .slice none 0 0] := by rw [hR]; unfold Pl.val ndP ndM exN colN keyN; rw [h12]; rfl
    subst hR2
    rw [h12]
    have HB := hide (below_alloc (Below.refl _ w) (.cells #[.int .i64 12, .string p.tab, .slice m.aE p.ex.length m.cE, .slice m.aC p.cols.length m.cC, .slice m.aK p.keys.length m.cK, .slice m.aA p.aggs.length m.cA, .int .i64 p.fn, .int .i64 p.col, .int .i64 p.n, .int .i64 p.off, .slice m.aP p.args.length m.cP] 28))
    clear hR
    go_enter Tryz.func105, Tryz.ntmps105
    go_wp2
    exact bodyPost_ret (v := .agg #[.int .i64 0, .string ⟨#[]⟩, .slice none 0 0, .slice m.aC p.cols.length m.cC, .slice none 0 0, .slice none 0 0, .int .i64 0, .int .i64 0, .int .i64 0, .int .i64 0, .slice none 0 0]) (by simp [results, Tryz.results105, go_sem]) rfl ⟨rfl, below_alloc (unhide HB) _⟩
  · obtain ⟨e1, e2, e3, e4, e5, e6, e9, e10, e12⟩ := no_op (op := p.op) (by omega)
    have hR2 : R = .agg #[.int .i64 0, .string ⟨#[]⟩, .slice none 0 0, .slice none 0 0, .slice none 0 0, .slice none 0 0, .int .i64 0, .int .i64 0, .int .i64 0, .int .i64 0, .slice none 0 0] := by rw [hR]; unfold Pl.val ndP ndM exN colN keyN; rw [e1, e2, e3, e4, e5, e6, e9, e10, e12]; rfl
    subst hR2
    have HB := hide (below_alloc (Below.refl _ w) (.cells #[.int .i64 p.op, .string p.tab, .slice m.aE p.ex.length m.cE, .slice m.aC p.cols.length m.cC, .slice m.aK p.keys.length m.cK, .slice m.aA p.aggs.length m.cA, .int .i64 p.fn, .int .i64 p.col, .int .i64 p.n, .int .i64 p.off, .slice m.aP p.args.length m.cP] 28))
    clear hR h1 h2 h3 h4 h5 h6 h9 h10 h12
    go_enter Tryz.func105, Tryz.ntmps105
    go_wp2
    exact bodyPost_ret (v := .agg #[.int .i64 0, .string ⟨#[]⟩, .slice none 0 0, .slice none 0 0, .slice none 0 0, .slice none 0 0, .int .i64 0, .int .i64 0, .int .i64 0, .int .i64 0, .slice none 0 0]) (by simp [results, Tryz.results105, go_sem]) rfl ⟨rfl, below_alloc (unhide HB) _⟩
/-- As many Args as it must have. -/
def argsB (p : Pl) : Bool := if p.op == 1 || p.op == 12 then p.args.length == 0 else if p.op == 4 || p.op == 5 || p.op == 11 then p.args.length == 2 else if p.op == 8 then decide (1 ≤ p.args.length) else p.args.length == 1
theorem natbeq (n k : Nat) : ((n : Int) == (k : Int)) = (n == k) := by rw [Bool.eq_iff_iff]; simp; omega
set_option maxHeartbeats 2000000 in
set_option maxRecDepth 100000 in
/-- hasItsArgs (71). -/
theorem itsArgs_any (p : Pl) (m : Pm) (w : World) : Calls Tryz.prog 71 #[p.val m] w fun r w' => r = .returned (.bool (argsB p)) ∧ Below w.heap.size w w' := by
  obtain ⟨R, hR⟩ : ∃ R, R = argsB p := ⟨_, rfl⟩
  rw [← hR]
  rw [Pl.val_open]
  by_cases h1 : p.op = 1
  · have hR2 : R = ((p.args.length : Int) == 0) := by
      rw [hR]; unfold argsB; rw [h1]
      show (p.args.length == 0) = _
      exact (natbeq _ 0).symm
    subst hR2
    rw [h1]
    have HB := hide (below_alloc (Below.refl _ w) (.cells #[.int .i64 1, .string p.tab, .slice m.aE p.ex.length m.cE, .slice m.aC p.cols.length m.cC, .slice m.aK p.keys.length m.cK, .slice m.aA p.aggs.length m.cA, .int .i64 p.fn, .int .i64 p.col, .int .i64 p.n, .int .i64 p.off, .slice m.aP p.args.length m.cP] 28))
    clear hR
    go_enter Tryz.func71, Tryz.ntmps71
    go_wp2
    go_ret
    exact ⟨rfl, unhide HB⟩
  by_cases h12 : p.op = 12
  · have hR2 : R = ((p.args.length : Int) == 0) := by
      rw [hR]; unfold argsB; rw [h12]
      show (p.args.length == 0) = _
      exact (natbeq _ 0).symm
    subst hR2
    rw [h12]
    have HB := hide (below_alloc (Below.refl _ w) (.cells #[.int .i64 12, .string p.tab, .slice m.aE p.ex.length m.cE, .slice m.aC p.cols.length m.cC, .slice m.aK p.keys.length m.cK, .slice m.aA p.aggs.length m.cA, .int .i64 p.fn, .int .i64 p.col, .int .i64 p.n, .int .i64 p.off, .slice m.aP p.args.length m.cP] 28))
    clear hR
    go_enter Tryz.func71, Tryz.ntmps71
    go_wp2
    go_ret
    exact ⟨rfl, unhide HB⟩
  by_cases h4 : p.op = 4
  · have hR2 : R = ((p.args.length : Int) == 2) := by
      rw [hR]; unfold argsB; rw [h4]
      show (p.args.length == 2) = _
      exact (natbeq _ 2).symm
    subst hR2
    rw [h4]
    have HB := hide (below_alloc (Below.refl _ w) (.cells #[.int .i64 4, .string p.tab, .slice m.aE p.ex.length m.cE, .slice m.aC p.cols.length m.cC, .slice m.aK p.keys.length m.cK, .slice m.aA p.aggs.length m.cA, .int .i64 p.fn, .int .i64 p.col, .int .i64 p.n, .int .i64 p.off, .slice m.aP p.args.length m.cP] 28))
    clear hR
    go_enter Tryz.func71, Tryz.ntmps71
    go_wp2
    go_ret
    exact ⟨rfl, unhide HB⟩
  by_cases h5 : p.op = 5
  · have hR2 : R = ((p.args.length : Int) == 2) := by
      rw [hR]; unfold argsB; rw [h5]
      show (p.args.length == 2) = _
      exact (natbeq _ 2).symm
    subst hR2
    rw [h5]
    have HB := hide (below_alloc (Below.refl _ w) (.cells #[.int .i64 5, .string p.tab, .slice m.aE p.ex.length m.cE, .slice m.aC p.cols.length m.cC, .slice m.aK p.keys.length m.cK, .slice m.aA p.aggs.length m.cA, .int .i64 p.fn, .int .i64 p.col, .int .i64 p.n, .int .i64 p.off, .slice m.aP p.args.length m.cP] 28))
    clear hR
    go_enter Tryz.func71, Tryz.ntmps71
    go_wp2
    go_ret
    exact ⟨rfl, unhide HB⟩
  by_cases h11 : p.op = 11
  · have hR2 : R = ((p.args.length : Int) == 2) := by
      rw [hR]; unfold argsB; rw [h11]
      show (p.args.length == 2) = _
      exact (natbeq _ 2).symm
    subst hR2
    rw [h11]
    have HB := hide (below_alloc (Below.refl _ w) (.cells #[.int .i64 11, .string p.tab, .slice m.aE p.ex.length m.cE, .slice m.aC p.cols.length m.cC, .slice m.aK p.keys.length m.cK, .slice m.aA p.aggs.length m.cA, .int .i64 p.fn, .int .i64 p.col, .int .i64 p.n, .int .i64 p.off, .slice m.aP p.args.length m.cP] 28))
    clear hR
    go_enter Tryz.func71, Tryz.ntmps71
    go_wp2
    go_ret
    exact ⟨rfl, unhide HB⟩
  by_cases h8 : p.op = 8
  · have hR2 : R = (decide ((1 : Int) ≤ (p.args.length : Int))) := by
      rw [hR]; unfold argsB; rw [h8]
      show (decide (1 ≤ p.args.length)) = _
      rw [Bool.eq_iff_iff]; simp; omega
    subst hR2
    rw [h8]
    have HB := hide (below_alloc (Below.refl _ w) (.cells #[.int .i64 8, .string p.tab, .slice m.aE p.ex.length m.cE, .slice m.aC p.cols.length m.cC, .slice m.aK p.keys.length m.cK, .slice m.aA p.aggs.length m.cA, .int .i64 p.fn, .int .i64 p.col, .int .i64 p.n, .int .i64 p.off, .slice m.aP p.args.length m.cP] 28))
    clear hR
    go_enter Tryz.func71, Tryz.ntmps71
    go_wp2
    go_ret
    exact ⟨rfl, unhide HB⟩
  · have e1 : (p.op == 1) = false := by simpa using h1
    have e12 : (p.op == 12) = false := by simpa using h12
    have e4 : (p.op == 4) = false := by simpa using h4
    have e5 : (p.op == 5) = false := by simpa using h5
    have e11 : (p.op == 11) = false := by simpa using h11
    have e8 : (p.op == 8) = false := by simpa using h8
    have hR2 : R = ((p.args.length : Int) == 1) := by
      rw [hR]; unfold argsB; rw [e1, e12, e4, e5, e11, e8]
      show (p.args.length == 1) = _
      exact (natbeq _ 1).symm
    subst hR2
    have HB := hide (below_alloc (Below.refl _ w) (.cells #[.int .i64 p.op, .string p.tab, .slice m.aE p.ex.length m.cE, .slice m.aC p.cols.length m.cC, .slice m.aK p.keys.length m.cK, .slice m.aA p.aggs.length m.cA, .int .i64 p.fn, .int .i64 p.col, .int .i64 p.n, .int .i64 p.off, .slice m.aP p.args.length m.cP] 28))
    clear hR h1 h12 h4 h5 h11 h8
    go_enter Tryz.func71, Tryz.ntmps71
    go_wp2
    go_ret
    exact ⟨rfl, unhide HB⟩
end Go.Proofs.YtcpndojkfngioaaGreat
