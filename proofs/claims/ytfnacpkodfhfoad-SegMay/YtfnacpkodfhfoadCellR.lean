import Derived.Test.YtfnacpkodfhfoadCellC
set_option linter.unusedSimpArgs false
set_option linter.unusedVariables false
namespace Go.Proofs.Ytfnacpkodfhfoad
open Go.RowKit Go.Sort

def nullB (x : Val) : Bool := (cleanV x).k == 0
theorem nullB_eq (x : Val) : nullB x = (x.k != 1 && x.k != 2) := by
  unfold nullB cleanV
  rcases Bool.eq_false_or_eq_true (x.k == 1) with h1 | h1 <;> rcases Bool.eq_false_or_eq_true (x.k == 2) with h2 | h2 <;> simp [h1, h2, bne, Val.num, Val.str, Val.null]

theorem isNull_any (x : Val) (w : World) :
    Calls Try.prog 102 #[x.v] w fun e w' => e = .returned (.bool (nullB x)) ∧ Below w.heap.size w w' := by
  rw [x.open_, nullB_eq]
  rcases Bool.eq_false_or_eq_true (x.k != 1) with hk | hk
  · go_enter Try.func102, Try.ntmps102
    go_wp2
    go_ret
    exact ⟨by simp [hk], (Below.refl _ _).alloc (Nat.le_refl _) _⟩
  · go_enter Try.func102, Try.ntmps102
    go_wp2
    go_ret
    exact ⟨by simp [hk], (Below.refl _ _).alloc (Nat.le_refl _) _⟩

def testB (op o : Int) : Option Bool :=
  if op == 12 then some (o == 0) else if op == 13 then some (o != 0) else if op == 14 then some (decide (o < 0)) else if op == 15 then some (decide (o ≤ 0)) else if op == 16 then some (decide (0 < o)) else if op == 17 then some (decide (0 ≤ o)) else none
def testR (op o : Int) : Val := match testB op o with | some t => truthV t | none => .null
def testV (op : Int) (a b : Val) : Val := if nullB a || nullB b then .null else testR op (ordV a b)

theorem testR_some {op o : Int} {t : Bool} (h : testB op o = some t) : testR op o = truthV t := by simp [testR, h]
theorem testR_none {op o : Int} (h : testB op o = none) : testR op o = .null := by simp [testR, h]

set_option maxHeartbeats 4000000 in
set_option maxRecDepth 100000 in
theorem test_any (op : Int) (a b : Val) (w : World) :
    Calls Try.prog 88 #[.int .i64 op, a.v, b.v] w fun e w' => e = .returned (testV op a b).v ∧ Below w.heap.size w w' := by
  rw [a.open_, b.open_]
  unfold testV
  have HA := hide (isNull_any a)
  have HB := hide (isNull_any b)
  have HO := hide (order_any a b)
  have B : Below (boxes3 w a b).heap.size (boxes3 w a b) (boxes3 w a b) := Below.refl _ _
  generalize ordV a b = o at *
  generalize nullB a = na at *
  generalize nullB b = nb at *
  cases na
  · cases nb
    · simp only [Bool.or_self, Bool.false_eq_true, if_false]
      rcases Bool.eq_false_or_eq_true (op == 12) with h12 | h12
      · rw [testR_some (t := (o == 0)) (by simp [testB, *])]
        go_enter Try.func88, Try.ntmps88
        go_wp2_with (first
        | (go_at_call_of 102 (Value.agg #[Value.int IntKind.i64 a.k, Value.int IntKind.i64 a.n, Value.string a.s]); refine (unhide HA _).mono ?_; rintro e w1 ⟨rfl, hb1⟩; replace B := below_step B hb1; clear hb1; obtain ⟨⟨a0, a1, a2⟩, ⟨b0, b1, b2⟩, ⟨f0, f1, f2⟩, ⟨g0, g1, g2⟩, ⟨z0, z1, z2, z3, z4, z5⟩, hz⟩ := boxes3_facts B)
        | (go_at_call_of 102 (Value.agg #[Value.int IntKind.i64 b.k, Value.int IntKind.i64 b.n, Value.string b.s]); refine (unhide HB _).mono ?_; rintro e w1 ⟨rfl, hb1⟩; replace B := below_step B hb1; clear hb1; obtain ⟨⟨a0, a1, a2⟩, ⟨b0, b1, b2⟩, ⟨f0, f1, f2⟩, ⟨g0, g1, g2⟩, ⟨z0, z1, z2, z3, z4, z5⟩, hz⟩ := boxes3_facts B)
        | (go_at_call 66; refine (unhide HO _).mono ?_; rintro e w1 ⟨rfl, hb1⟩; replace B := below_step B hb1; clear hb1; obtain ⟨⟨a0, a1, a2⟩, ⟨b0, b1, b2⟩, ⟨f0, f1, f2⟩, ⟨g0, g1, g2⟩, ⟨z0, z1, z2, z3, z4, z5⟩, hz⟩ := boxes3_facts B)
        | (go_at_call 101; refine (truth_any _ _).mono ?_; rintro e w1 ⟨rfl, hb1⟩; replace B := below_step B hb1; clear hb1; rw [Val.open_]; obtain ⟨⟨a0, a1, a2⟩, ⟨b0, b1, b2⟩, ⟨f0, f1, f2⟩, ⟨g0, g1, g2⟩, ⟨z0, z1, z2, z3, z4, z5⟩, hz⟩ := boxes3_facts B))
        refine bodyPost_ret (v := (truthV (o == 0)).v) (by simp [results, Try.results88, go_sem, Val.v, *]) rfl ⟨rfl, ?_⟩
        exact ((((boxes3_below B).setCell (by simp <;> omega) _).setCell (by simp <;> omega) _).setCell (by simp <;> omega) _)
      rcases Bool.eq_false_or_eq_true (op == 13) with h13 | h13
      · rw [testR_some (t := (o != 0)) (by simp [testB, *])]
        go_enter Try.func88, Try.ntmps88
        go_wp2_with (first
        | (go_at_call_of 102 (Value.agg #[Value.int IntKind.i64 a.k, Value.int IntKind.i64 a.n, Value.string a.s]); refine (unhide HA _).mono ?_; rintro e w1 ⟨rfl, hb1⟩; replace B := below_step B hb1; clear hb1; obtain ⟨⟨a0, a1, a2⟩, ⟨b0, b1, b2⟩, ⟨f0, f1, f2⟩, ⟨g0, g1, g2⟩, ⟨z0, z1, z2, z3, z4, z5⟩, hz⟩ := boxes3_facts B)
        | (go_at_call_of 102 (Value.agg #[Value.int IntKind.i64 b.k, Value.int IntKind.i64 b.n, Value.string b.s]); refine (unhide HB _).mono ?_; rintro e w1 ⟨rfl, hb1⟩; replace B := below_step B hb1; clear hb1; obtain ⟨⟨a0, a1, a2⟩, ⟨b0, b1, b2⟩, ⟨f0, f1, f2⟩, ⟨g0, g1, g2⟩, ⟨z0, z1, z2, z3, z4, z5⟩, hz⟩ := boxes3_facts B)
        | (go_at_call 66; refine (unhide HO _).mono ?_; rintro e w1 ⟨rfl, hb1⟩; replace B := below_step B hb1; clear hb1; obtain ⟨⟨a0, a1, a2⟩, ⟨b0, b1, b2⟩, ⟨f0, f1, f2⟩, ⟨g0, g1, g2⟩, ⟨z0, z1, z2, z3, z4, z5⟩, hz⟩ := boxes3_facts B)
        | (go_at_call 101; refine (truth_any _ _).mono ?_; rintro e w1 ⟨rfl, hb1⟩; replace B := below_step B hb1; clear hb1; rw [Val.open_]; obtain ⟨⟨a0, a1, a2⟩, ⟨b0, b1, b2⟩, ⟨f0, f1, f2⟩, ⟨g0, g1, g2⟩, ⟨z0, z1, z2, z3, z4, z5⟩, hz⟩ := boxes3_facts B))
        refine bodyPost_ret (v := (truthV (o != 0)).v) (by simp [results, Try.results88, go_sem, Val.v, *]) rfl ⟨rfl, ?_⟩
        exact ((((boxes3_below B).setCell (by simp <;> omega) _).setCell (by simp <;> omega) _).setCell (by simp <;> omega) _)
      rcases Bool.eq_false_or_eq_true (op == 14) with h14 | h14
      · rw [testR_some (t := (decide (o < 0))) (by simp [testB, *])]
        go_enter Try.func88, Try.ntmps88
        go_wp2_with (first
        | (go_at_call_of 102 (Value.agg #[Value.int IntKind.i64 a.k, Value.int IntKind.i64 a.n, Value.string a.s]); refine (unhide HA _).mono ?_; rintro e w1 ⟨rfl, hb1⟩; replace B := below_step B hb1; clear hb1; obtain ⟨⟨a0, a1, a2⟩, ⟨b0, b1, b2⟩, ⟨f0, f1, f2⟩, ⟨g0, g1, g2⟩, ⟨z0, z1, z2, z3, z4, z5⟩, hz⟩ := boxes3_facts B)
        | (go_at_call_of 102 (Value.agg #[Value.int IntKind.i64 b.k, Value.int IntKind.i64 b.n, Value.string b.s]); refine (unhide HB _).mono ?_; rintro e w1 ⟨rfl, hb1⟩; replace B := below_step B hb1; clear hb1; obtain ⟨⟨a0, a1, a2⟩, ⟨b0, b1, b2⟩, ⟨f0, f1, f2⟩, ⟨g0, g1, g2⟩, ⟨z0, z1, z2, z3, z4, z5⟩, hz⟩ := boxes3_facts B)
        | (go_at_call 66; refine (unhide HO _).mono ?_; rintro e w1 ⟨rfl, hb1⟩; replace B := below_step B hb1; clear hb1; obtain ⟨⟨a0, a1, a2⟩, ⟨b0, b1, b2⟩, ⟨f0, f1, f2⟩, ⟨g0, g1, g2⟩, ⟨z0, z1, z2, z3, z4, z5⟩, hz⟩ := boxes3_facts B)
        | (go_at_call 101; refine (truth_any _ _).mono ?_; rintro e w1 ⟨rfl, hb1⟩; replace B := below_step B hb1; clear hb1; rw [Val.open_]; obtain ⟨⟨a0, a1, a2⟩, ⟨b0, b1, b2⟩, ⟨f0, f1, f2⟩, ⟨g0, g1, g2⟩, ⟨z0, z1, z2, z3, z4, z5⟩, hz⟩ := boxes3_facts B))
        refine bodyPost_ret (v := (truthV (decide (o < 0))).v) (by simp [results, Try.results88, go_sem, Val.v, *]) rfl ⟨rfl, ?_⟩
        exact ((((boxes3_below B).setCell (by simp <;> omega) _).setCell (by simp <;> omega) _).setCell (by simp <;> omega) _)
      rcases Bool.eq_false_or_eq_true (op == 15) with h15 | h15
      · rw [testR_some (t := (decide (o ≤ 0))) (by simp [testB, *])]
        go_enter Try.func88, Try.ntmps88
        go_wp2_with (first
        | (go_at_call_of 102 (Value.agg #[Value.int IntKind.i64 a.k, Value.int IntKind.i64 a.n, Value.string a.s]); refine (unhide HA _).mono ?_; rintro e w1 ⟨rfl, hb1⟩; replace B := below_step B hb1; clear hb1; obtain ⟨⟨a0, a1, a2⟩, ⟨b0, b1, b2⟩, ⟨f0, f1, f2⟩, ⟨g0, g1, g2⟩, ⟨z0, z1, z2, z3, z4, z5⟩, hz⟩ := boxes3_facts B)
        | (go_at_call_of 102 (Value.agg #[Value.int IntKind.i64 b.k, Value.int IntKind.i64 b.n, Value.string b.s]); refine (unhide HB _).mono ?_; rintro e w1 ⟨rfl, hb1⟩; replace B := below_step B hb1; clear hb1; obtain ⟨⟨a0, a1, a2⟩, ⟨b0, b1, b2⟩, ⟨f0, f1, f2⟩, ⟨g0, g1, g2⟩, ⟨z0, z1, z2, z3, z4, z5⟩, hz⟩ := boxes3_facts B)
        | (go_at_call 66; refine (unhide HO _).mono ?_; rintro e w1 ⟨rfl, hb1⟩; replace B := below_step B hb1; clear hb1; obtain ⟨⟨a0, a1, a2⟩, ⟨b0, b1, b2⟩, ⟨f0, f1, f2⟩, ⟨g0, g1, g2⟩, ⟨z0, z1, z2, z3, z4, z5⟩, hz⟩ := boxes3_facts B)
        | (go_at_call 101; refine (truth_any _ _).mono ?_; rintro e w1 ⟨rfl, hb1⟩; replace B := below_step B hb1; clear hb1; rw [Val.open_]; obtain ⟨⟨a0, a1, a2⟩, ⟨b0, b1, b2⟩, ⟨f0, f1, f2⟩, ⟨g0, g1, g2⟩, ⟨z0, z1, z2, z3, z4, z5⟩, hz⟩ := boxes3_facts B))
        refine bodyPost_ret (v := (truthV (decide (o ≤ 0))).v) (by simp [results, Try.results88, go_sem, Val.v, *]) rfl ⟨rfl, ?_⟩
        exact ((((boxes3_below B).setCell (by simp <;> omega) _).setCell (by simp <;> omega) _).setCell (by simp <;> omega) _)
      rcases Bool.eq_false_or_eq_true (op == 16) with h16 | h16
      · rw [testR_some (t := (decide (0 < o))) (by simp [testB, *])]
        go_enter Try.func88, Try.ntmps88
        go_wp2_with (first
        | (go_at_call_of 102 (Value.agg #[Value.int IntKind.i64 a.k, Value.int IntKind.i64 a.n, Value.string a.s]); refine (unhide HA _).mono ?_; rintro e w1 ⟨rfl, hb1⟩; replace B := below_step B hb1; clear hb1; obtain ⟨⟨a0, a1, a2⟩, ⟨b0, b1, b2⟩, ⟨f0, f1, f2⟩, ⟨g0, g1, g2⟩, ⟨z0, z1, z2, z3, z4, z5⟩, hz⟩ := boxes3_facts B)
        | (go_at_call_of 102 (Value.agg #[Value.int IntKind.i64 b.k, Value.int IntKind.i64 b.n, Value.string b.s]); refine (unhide HB _).mono ?_; rintro e w1 ⟨rfl, hb1⟩; replace B := below_step B hb1; clear hb1; obtain ⟨⟨a0, a1, a2⟩, ⟨b0, b1, b2⟩, ⟨f0, f1, f2⟩, ⟨g0, g1, g2⟩, ⟨z0, z1, z2, z3, z4, z5⟩, hz⟩ := boxes3_facts B)
        | (go_at_call 66; refine (unhide HO _).mono ?_; rintro e w1 ⟨rfl, hb1⟩; replace B := below_step B hb1; clear hb1; obtain ⟨⟨a0, a1, a2⟩, ⟨b0, b1, b2⟩, ⟨f0, f1, f2⟩, ⟨g0, g1, g2⟩, ⟨z0, z1, z2, z3, z4, z5⟩, hz⟩ := boxes3_facts B)
        | (go_at_call 101; refine (truth_any _ _).mono ?_; rintro e w1 ⟨rfl, hb1⟩; replace B := below_step B hb1; clear hb1; rw [Val.open_]; obtain ⟨⟨a0, a1, a2⟩, ⟨b0, b1, b2⟩, ⟨f0, f1, f2⟩, ⟨g0, g1, g2⟩, ⟨z0, z1, z2, z3, z4, z5⟩, hz⟩ := boxes3_facts B))
        refine bodyPost_ret (v := (truthV (decide (0 < o))).v) (by simp [results, Try.results88, go_sem, Val.v, *]) rfl ⟨rfl, ?_⟩
        exact ((((boxes3_below B).setCell (by simp <;> omega) _).setCell (by simp <;> omega) _).setCell (by simp <;> omega) _)
      rcases Bool.eq_false_or_eq_true (op == 17) with h17 | h17
      · rw [testR_some (t := (decide (0 ≤ o))) (by simp [testB, *])]
        go_enter Try.func88, Try.ntmps88
        go_wp2_with (first
        | (go_at_call_of 102 (Value.agg #[Value.int IntKind.i64 a.k, Value.int IntKind.i64 a.n, Value.string a.s]); refine (unhide HA _).mono ?_; rintro e w1 ⟨rfl, hb1⟩; replace B := below_step B hb1; clear hb1; obtain ⟨⟨a0, a1, a2⟩, ⟨b0, b1, b2⟩, ⟨f0, f1, f2⟩, ⟨g0, g1, g2⟩, ⟨z0, z1, z2, z3, z4, z5⟩, hz⟩ := boxes3_facts B)
        | (go_at_call_of 102 (Value.agg #[Value.int IntKind.i64 b.k, Value.int IntKind.i64 b.n, Value.string b.s]); refine (unhide HB _).mono ?_; rintro e w1 ⟨rfl, hb1⟩; replace B := below_step B hb1; clear hb1; obtain ⟨⟨a0, a1, a2⟩, ⟨b0, b1, b2⟩, ⟨f0, f1, f2⟩, ⟨g0, g1, g2⟩, ⟨z0, z1, z2, z3, z4, z5⟩, hz⟩ := boxes3_facts B)
        | (go_at_call 66; refine (unhide HO _).mono ?_; rintro e w1 ⟨rfl, hb1⟩; replace B := below_step B hb1; clear hb1; obtain ⟨⟨a0, a1, a2⟩, ⟨b0, b1, b2⟩, ⟨f0, f1, f2⟩, ⟨g0, g1, g2⟩, ⟨z0, z1, z2, z3, z4, z5⟩, hz⟩ := boxes3_facts B)
        | (go_at_call 101; refine (truth_any _ _).mono ?_; rintro e w1 ⟨rfl, hb1⟩; replace B := below_step B hb1; clear hb1; rw [Val.open_]; obtain ⟨⟨a0, a1, a2⟩, ⟨b0, b1, b2⟩, ⟨f0, f1, f2⟩, ⟨g0, g1, g2⟩, ⟨z0, z1, z2, z3, z4, z5⟩, hz⟩ := boxes3_facts B))
        refine bodyPost_ret (v := (truthV (decide (0 ≤ o))).v) (by simp [results, Try.results88, go_sem, Val.v, *]) rfl ⟨rfl, ?_⟩
        exact ((((boxes3_below B).setCell (by simp <;> omega) _).setCell (by simp <;> omega) _).setCell (by simp <;> omega) _)
      rw [testR_none (by simp [testB, *])]
      go_enter Try.func88, Try.ntmps88
      go_wp2_with (first
        | (go_at_call_of 102 (Value.agg #[Value.int IntKind.i64 a.k, Value.int IntKind.i64 a.n, Value.string a.s]); refine (unhide HA _).mono ?_; rintro e w1 ⟨rfl, hb1⟩; replace B := below_step B hb1; clear hb1; obtain ⟨⟨a0, a1, a2⟩, ⟨b0, b1, b2⟩, ⟨f0, f1, f2⟩, ⟨g0, g1, g2⟩, ⟨z0, z1, z2, z3, z4, z5⟩, hz⟩ := boxes3_facts B)
        | (go_at_call_of 102 (Value.agg #[Value.int IntKind.i64 b.k, Value.int IntKind.i64 b.n, Value.string b.s]); refine (unhide HB _).mono ?_; rintro e w1 ⟨rfl, hb1⟩; replace B := below_step B hb1; clear hb1; obtain ⟨⟨a0, a1, a2⟩, ⟨b0, b1, b2⟩, ⟨f0, f1, f2⟩, ⟨g0, g1, g2⟩, ⟨z0, z1, z2, z3, z4, z5⟩, hz⟩ := boxes3_facts B)
        | (go_at_call 66; refine (unhide HO _).mono ?_; rintro e w1 ⟨rfl, hb1⟩; replace B := below_step B hb1; clear hb1; obtain ⟨⟨a0, a1, a2⟩, ⟨b0, b1, b2⟩, ⟨f0, f1, f2⟩, ⟨g0, g1, g2⟩, ⟨z0, z1, z2, z3, z4, z5⟩, hz⟩ := boxes3_facts B))
      refine bodyPost_ret (v := Val.null.v) (by simp [results, Try.results88, go_sem, Val.v, Val.null, *]) rfl ⟨rfl, ?_⟩
      exact ((((boxes3_below B).setCell (by simp <;> omega) _).setCell (by simp <;> omega) _).setCell (by simp <;> omega) _)
    · simp only [Bool.or_true, if_true]
      go_enter Try.func88, Try.ntmps88
      go_wp2_with (first
        | (go_at_call_of 102 (Value.agg #[Value.int IntKind.i64 a.k, Value.int IntKind.i64 a.n, Value.string a.s]); refine (unhide HA _).mono ?_; rintro e w1 ⟨rfl, hb1⟩; replace B := below_step B hb1; clear hb1; obtain ⟨⟨a0, a1, a2⟩, ⟨b0, b1, b2⟩, ⟨f0, f1, f2⟩, ⟨g0, g1, g2⟩, ⟨z0, z1, z2, z3, z4, z5⟩, hz⟩ := boxes3_facts B)
        | (go_at_call_of 102 (Value.agg #[Value.int IntKind.i64 b.k, Value.int IntKind.i64 b.n, Value.string b.s]); refine (unhide HB _).mono ?_; rintro e w1 ⟨rfl, hb1⟩; replace B := below_step B hb1; clear hb1; obtain ⟨⟨a0, a1, a2⟩, ⟨b0, b1, b2⟩, ⟨f0, f1, f2⟩, ⟨g0, g1, g2⟩, ⟨z0, z1, z2, z3, z4, z5⟩, hz⟩ := boxes3_facts B)
        | (go_at_call 66; refine (unhide HO _).mono ?_; rintro e w1 ⟨rfl, hb1⟩; replace B := below_step B hb1; clear hb1; obtain ⟨⟨a0, a1, a2⟩, ⟨b0, b1, b2⟩, ⟨f0, f1, f2⟩, ⟨g0, g1, g2⟩, ⟨z0, z1, z2, z3, z4, z5⟩, hz⟩ := boxes3_facts B))
      refine bodyPost_ret (v := Val.null.v) (by simp [results, Try.results88, go_sem, Val.v, Val.null, *]) rfl ⟨rfl, ?_⟩
      exact ((((boxes3_below B).setCell (by simp <;> omega) _).setCell (by simp <;> omega) _).setCell (by simp <;> omega) _)
  · simp only [Bool.true_or, if_true]
    go_enter Try.func88, Try.ntmps88
    go_wp2_with (first
        | (go_at_call_of 102 (Value.agg #[Value.int IntKind.i64 a.k, Value.int IntKind.i64 a.n, Value.string a.s]); refine (unhide HA _).mono ?_; rintro e w1 ⟨rfl, hb1⟩; replace B := below_step B hb1; clear hb1; obtain ⟨⟨a0, a1, a2⟩, ⟨b0, b1, b2⟩, ⟨f0, f1, f2⟩, ⟨g0, g1, g2⟩, ⟨z0, z1, z2, z3, z4, z5⟩, hz⟩ := boxes3_facts B)
        | (go_at_call_of 102 (Value.agg #[Value.int IntKind.i64 b.k, Value.int IntKind.i64 b.n, Value.string b.s]); refine (unhide HB _).mono ?_; rintro e w1 ⟨rfl, hb1⟩; replace B := below_step B hb1; clear hb1; obtain ⟨⟨a0, a1, a2⟩, ⟨b0, b1, b2⟩, ⟨f0, f1, f2⟩, ⟨g0, g1, g2⟩, ⟨z0, z1, z2, z3, z4, z5⟩, hz⟩ := boxes3_facts B)
        | (go_at_call 66; refine (unhide HO _).mono ?_; rintro e w1 ⟨rfl, hb1⟩; replace B := below_step B hb1; clear hb1; obtain ⟨⟨a0, a1, a2⟩, ⟨b0, b1, b2⟩, ⟨f0, f1, f2⟩, ⟨g0, g1, g2⟩, ⟨z0, z1, z2, z3, z4, z5⟩, hz⟩ := boxes3_facts B))
    refine bodyPost_ret (v := Val.null.v) (by simp [results, Try.results88, go_sem, Val.v, Val.null, *]) rfl ⟨rfl, ?_⟩
    exact ((((boxes3_below B).setCell (by simp <;> omega) _).setCell (by simp <;> omega) _).setCell (by simp <;> omega) _)

theorem clean_clean (x : Val) : cleanV (cleanV x) = cleanV x := by
  unfold cleanV
  rcases Bool.eq_false_or_eq_true (x.k == 1) with h1 | h1 <;> rcases Bool.eq_false_or_eq_true (x.k == 2) with h2 | h2 <;> simp [h1, h2, Val.num, Val.str, Val.null]
theorem ord_clean (a b : Val) : ordV (cleanV a) (cleanV b) = ordV a b := by unfold ordV; rw [clean_clean, clean_clean]

end Go.Proofs.Ytfnacpkodfhfoad
