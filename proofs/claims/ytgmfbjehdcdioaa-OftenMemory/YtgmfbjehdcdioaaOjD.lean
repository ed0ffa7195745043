import Derived.Test.YtgmfbjehdcdioaaOjC
set_option linter.unusedSimpArgs false
set_option linter.unusedVariables false
set_option maxRecDepth 100000
namespace Go.Proofs.Ytgmfbjehdcdioaa
open Go.RowKit Go.Sort

theorem pf0 (a b c d e : Value) (W : World) : (part 34 #[a, b, c, d, e] 0).run Try.prog W = .ok (.agg #[a, b, c]) W := by kernel_rfl
theorem pf1 (a b c d e : Value) (W : World) : (part 2 #[a, b, c, d, e] 3).run Try.prog W = .ok d W := by kernel_rfl
theorem pf2 (a b c d e : Value) (W : World) : (part 2 #[a, b, c, d, e] 4).run Try.prog W = .ok e W := by kernel_rfl
theorem eqs34 (d : Nat) (k n : Int) (s : ByteArray) (W : World) : (Op.equalIn (d + 2) 34 (.agg #[.int .i64 k, .int .i64 n, .string s]) (.agg #[.int .i64 k, .int .i64 n, .string s])).run Try.prog W = .ok true W := by
  unfold Op.equalIn
  simp only [Sem.run_bind, run_underlying Try.underlying34, Result.andThen_ok]
  have hpr : (program).run Try.prog W = .ok Try.prog W := rfl
  have hst : Try.prog.stoodInHeld 34 = false := by kernel_rfl
  have e3 := eq3 d k k W
  have e2 := eq2 d n n W
  have e9 := eq9 d s s W
  have h3 : (s == s) = true := by rw [ba_eq]; simp
  simp [hpr, hst, Result.andThen_ok, p0, p1, p2, e3, e2, e9, h3]
theorem eqF (y : Cn) (W : World) : (Op.equal 47 (agF y) (agF y)).run Try.prog W = .ok true W := by
  unfold Op.equal Op.maxDepth agF
  show (Op.equalIn (9999 + 1) 47 _ _).run Try.prog W = _
  unfold Op.equalIn
  simp only [Sem.run_bind, run_underlying Try.underlying47, Result.andThen_ok]
  have hpr : (program).run Try.prog W = .ok Try.prog W := rfl
  have hst : Try.prog.stoodInHeld 47 = false := by kernel_rfl
  have e34 := eqs34 9997 y.k y.n y.s W
  have e2 := eq2 9998 (y.lo : Int) (y.lo : Int) W
  have e2' := eq2 9998 (y.hi : Int) (y.hi : Int) W
  simp [hpr, hst, Result.andThen_ok, pf0, pf1, pf2, e34, e2, e2']
theorem neqF (y : Cn) (W : World) : (binOp .neq 47 (.agg #[.int .i64 y.k, .int .i64 y.n, .string y.s, .int .i64 y.lo, .int .i64 y.hi]) (.agg #[.int .i64 y.k, .int .i64 y.n, .string y.s, .int .i64 y.lo, .int .i64 y.hi])).run Try.prog W = .ok (.bool false) W := by
  have h := eqF y W
  unfold agF at h
  unfold binOp
  simp only [Sem.run_bind, h, Result.andThen_ok, Sem.run_pure]
  rfl

/-- A list of what is told, to be read. -/
def RdF (w : World) (S : Value) (ys : List Cn) : Prop := ∃ a c, S = .slice a ys.length c ∧ (ys = [] ∨ ∃ g, a = some ⟨g, 0, none⟩ ∧ ∀ (j : Nat) (y : Cn), ys[j]? = some y → w.cell? ⟨g, j * 5, none⟩ = some (.int .i64 y.k) ∧ w.cell? ⟨g, j * 5 + 1, none⟩ = some (.int .i64 y.n) ∧ w.cell? ⟨g, j * 5 + 2, none⟩ = some (.string y.s) ∧ w.cell? ⟨g, j * 5 + 3, none⟩ = some (.int .i64 y.lo) ∧ w.cell? ⟨g, j * 5 + 4, none⟩ = some (.int .i64 y.hi))
theorem OwnF.rd {w : World} {base : Nat} {S : Value} {ys : List Cn} (h : OwnF w base S ys) : RdF w S ys := by
  rcases id h.2 with ⟨e, h0⟩ | ⟨g, cap, cur, e, _⟩
  · exact ⟨none, 0, by rw [h0]; exact e, .inl (List.eq_nil_of_length_eq_zero h0)⟩
  · refine ⟨_, _, e, .inr ⟨g, rfl, fun j y hy => ?_⟩⟩
    subst e
    have hl := (List.getElem?_eq_some_iff.1 hy).1
    refine ⟨?_, ?_, ?_, ?_, ?_⟩
    · rw [World.ownsRow.cellAt h (j * 5) (by omega)]; exact c5_at ys j 0 y hy (by omega)
    · rw [World.ownsRow.cellAt h (j * 5 + 1) (by omega)]; exact c5_at ys j 1 y hy (by omega)
    · rw [World.ownsRow.cellAt h (j * 5 + 2) (by omega)]; exact c5_at ys j 2 y hy (by omega)
    · rw [World.ownsRow.cellAt h (j * 5 + 3) (by omega)]; exact c5_at ys j 3 y hy (by omega)
    · rw [World.ownsRow.cellAt h (j * 5 + 4) (by omega)]; exact c5_at ys j 4 y hy (by omega)
theorem RdF.later {w w' : World} {S : Value} {ys : List Cn} (h : RdF w S ys) (hb : Below w.heap.size w w') : RdF w' S ys := by
  obtain ⟨a, c, e, h⟩ := h
  refine ⟨a, c, e, ?_⟩
  rcases h with h | ⟨g, hg, h⟩
  · exact .inl h
  · exact .inr ⟨g, hg, fun j y hy => by
      obtain ⟨h0, h1, h2, h3, h4⟩ := h j y hy
      exact ⟨cell_later hb h0, cell_later hb h1, cell_later hb h2, cell_later hb h3, cell_later hb h4⟩⟩

set_option maxHeartbeats 1000000 in
theorem same_any {w : World} {S T : Value} {ys : List Cn} (hS : RdF w S ys) (hT : RdF w T ys) (hl : ys.length ≤ 1048576) : Calls Try.prog 14 #[S, T] w fun e w' => e = .returned (.bool true) ∧ Below w.heap.size w w' := by
  have HS := hide hS
  have HT := hide hT
  obtain ⟨aS, cS, eS, _⟩ := hS
  obtain ⟨aT, cT, eT, _⟩ := hT
  obtain ⟨n, hn⟩ : ∃ n, ys.length = n := ⟨_, rfl⟩
  rw [hn] at eS eT hl
  have HN := hide hn
  clear hn
  subst eS eT
  go_enter Try.func14, Try.ntmps14
  go_wp2_with fail
  go_loopw [13] (fun s13 wr => ∃ i : Nat, s13 = .int .i64 (i : Int) ∧ i ≤ n ∧ Hid (Below w.heap.size w wr)) (fun s _ => n - (intOf s).toNat)
  case atStart => exact ⟨0, rfl, Nat.zero_le _, Below.refl _ _⟩
  case round =>
    obtain ⟨i, rfl, hin, HB⟩ := hrel
    by_cases hi : i < n
    · obtain ⟨y, hy⟩ : ∃ y, ys[i]? = some y := ⟨_, List.getElem?_eq_getElem (by rw [unhide HN]; exact hi)⟩
      obtain ⟨a1, c1, e1, h1⟩ := (unhide HS).later (unhide HB)
      obtain ⟨a2, c2, e2, h2⟩ := (unhide HT).later (unhide HB)
      rw [unhide HN] at e1 e2
      cases e1
      cases e2
      rcases h1 with h1 | ⟨g1, rfl, h1⟩
      · rw [h1] at hy; cases hy
      rcases h2 with h2 | ⟨g2, rfl, h2⟩
      · rw [h2] at hy; cases hy
      obtain ⟨p0, p1, p2, p3, p4⟩ := h1 i y hy
      obtain ⟨q0, q1, q2, q3, q4⟩ := h2 i y hy
      have i1 : (i : Int) < (n : Int) := by omega
      clear h1 h2 hy
      go_upto_region 6 with fail
      go_cut [24] (fun s24 wc => s24 = .bool false ∧ Hid (Below w.heap.size w wc))
      case first =>
        have k0 := cell_regrown p0
        have k1 := cell_regrown p1
        have k2 := cell_regrown p2
        have k3 := cell_regrown p3
        have k4 := cell_regrown p4
        have l0 := cell_regrown q0
        have l1 := cell_regrown q1
        have l2 := cell_regrown q2
        have l3 := cell_regrown q3
        have l4 := cell_regrown q4
        have hne : ∀ d os, (binOp .neq 47 (.agg #[.int .i64 y.k, .int .i64 y.n, .string y.s, .int .i64 y.lo, .int .i64 y.hi]) (.agg #[.int .i64 y.k, .int .i64 y.n, .string y.s, .int .i64 y.lo, .int .i64 y.hi])).run Try.prog (grow (redrawn wr d) os) = .ok (.bool false) (grow (redrawn wr d) os) := fun d os => neqF y _
        clear p0 p1 p2 p3 p4 q0 q1 q2 q3 q4
        refine wp_region_quiet_below (by kernel_rfl) (by kernel_rfl) ?_
        repeat (go_big_quiet_step (fail))
        refine wpQuiet_nil ?_
        intro w' hw'
        have HB2 : Hid (Below w.heap.size w w') := by obtain ⟨p, rfl⟩ := hw'; exact below_step (unhide HB) (below_regrown _ _ _)
        clear hw' k0 k1 k2 k3 k4 l0 l1 l2 l3 l4 hne
        go_wp2
        go_meet
        exact ⟨rfl, HB2⟩
      case rest =>
      obtain ⟨rfl, HB2⟩ := hcut
      clear p0 p1 p2 p3 p4 q0 q1 q2 q3 q4
      go_wp2
      go_roundw
      case rel => exact ⟨i + 1, by go_num, by omega, HB2⟩
      case measure => simp [intOf]; omega
    · obtain rfl : i = n := by omega
      go_wp2
      go_ret
      exact ⟨rfl, unhide HB⟩
theorem mark_any (w : World) : Calls Try.prog 15 #[] w fun e w' => e = .returned (.agg #[.int .i64 2, .int .i64 0, .string ⟨#[115, 112, 111, 105, 108, 116]⟩]) ∧ Below w.heap.size w w' := by
  go_enter Try.func15, Try.ntmps15
  go_wp2
  refine bodyPost_ret (v := .agg #[.int .i64 2, .int .i64 0, .string ⟨#[115, 112, 111, 105, 108, 116]⟩]) (by simp [results, Try.results15, go_sem]) rfl ⟨rfl, below_alloc (Below.refl _ _) _⟩
end Go.Proofs.Ytgmfbjehdcdioaa
