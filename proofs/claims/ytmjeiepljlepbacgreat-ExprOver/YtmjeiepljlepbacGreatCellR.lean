import Derived.Test.YtmjeiepljlepbacGreatCellQ
set_option linter.unusedSimpArgs false
set_option linter.unusedVariables false
namespace Go.Proofs.YtmjeiepljlepbacGreat
open Go.RowKit Go.Sort

def nullB (x : Val) : Bool := (cleanV x).k == 0
theorem nullB_eq (x : Val) : nullB x = (x.k != 1 && x.k != 2) := by
  unfold nullB cleanV
  rcases Bool.eq_false_or_eq_true (x.k == 1) with h1 | h1 <;> rcases Bool.eq_false_or_eq_true (x.k == 2) with h2 | h2 <;> simp [h1, h2, bne, Val.num, Val.str, Val.null]

theorem isNull_any (x : Val) (w : World) :
    Calls Tryz.prog 226 #[x.v] w fun e w' => e = .returned (.bool (nullB x)) ∧ Below w.heap.size w w' := by
  rw [x.open_, nullB_eq]
  rcases Bool.eq_false_or_eq_true (x.k != 1) with hk | hk
  · go_enter Tryz.func226, Tryz.ntmps226
    go_wp2
    go_ret
    exact ⟨by simp [hk], (Below.refl _ _).alloc (Nat.le_refl _) _⟩
  · go_enter Tryz.func226, Tryz.ntmps226
    go_wp2
    go_ret
    exact ⟨by simp [hk], (Below.refl _ _).alloc (Nat.le_refl _) _⟩

def testB (op o : Int) : Option Bool :=
  if op == 12 then some (o == 0) else if op == 13 then some (o != 0) else if op == 14 then some (decide (o < 0)) else if op == 15 then some (decide (o ≤ 0)) else if op == 16 then some (decide (0 < o)) else if op == 17 then some (decide (0 ≤ o)) else none
def testR (op o : Int) : Val := match testB op o with | some t => truthV t | none => .null
def testV (op : Int) (a b : Val) : Val := if nullB a || nullB b then .null else testR op (ordV a b)

theorem testR_some {op o : Int} {t : Bool} (h : testB op o = some t) : testR op o = truthV t := by simp [testR, h]
theorem testR_none {op o : Int} (h : testB op o = none) : testR op o = .null := by simp [testR, h]

set_option maxHeartbeats 4000000 in
set_option maxRecDepth 100000 in
theorem test_any (op : Int) (a b : Val) (w : World) :
    Calls Tryz.prog 200 #[.int .i64 op, a.v, b.v] w fun e w' => e = .returned (testV op a b).v ∧ Below w.heap.size w w' := by
  rw [a.open_, b.open_]
  unfold testV
  have HA := hide (isNull_any a)
  have HB := hide (isNull_any b)
  have HO := hide (order_any a b)
  have B : Below (boxes3 w a b).heap.size (boxes3 w a b) (boxes3 w a b) := Below.refl _ _
  generalize ordV a b = o at *
  generalize nullB a = na at *
  generalize nullB b = nb at *
  cases na
  · cases nb
    · simp only [Bool.or_self, Bool.false_eq_true, if_false]
      rcases Bool.eq_false_or_eq_true (op == 12) with h12 | h12
      · rw [testR_some (t := (o == 0)) (by simp [testB, *])]
        go_enter Tryz.func200, Tryz.ntmps200
        go_wp2_with (first
        | (go_at_call_of 226 (Value.agg #[Value.int IntKind.i64 a.k, Value.int IntKind.i64 a.n, Value.string a.s]); refine (unhide HA _).mono ?_; rintro e w1 ⟨rfl, hb1⟩; replace B := below_step B hb1; clear hb1; obtain ⟨⟨a0, a1, a2⟩, ⟨b0, b1, b2⟩, ⟨f0, f1, f2⟩, ⟨g0, g1, g2⟩, ⟨z0, z1, z2, z3, z4, z5⟩, hz⟩ := boxes3_facts B)
        | (go_at_call_of 226 (Value.agg #[Value.int IntKind.i64 b.k, Value.int IntKind.i64 b.n, Value.string b.s]); refine (unhide HB _).mono ?_; rintro e w1 ⟨rfl, hb1⟩; replace B := below_step B hb1; clear hb1; obtain ⟨⟨a0, a1, a2⟩, ⟨b0, b1, b2⟩, ⟨f0, f1, f2⟩, ⟨g0, g1, g2⟩, ⟨z0, z1, z2, z3, z4, z5⟩, hz⟩ := boxes3_facts B)
        | (go_at_call 180; refine (unhide HO _).mono ?_; rintro e w1 ⟨rfl, hb1⟩; replace B := below_step B hb1; clear hb1; obtain ⟨⟨a0, a1, a2⟩, ⟨b0, b1, b2⟩, ⟨f0, f1, f2⟩, ⟨g0, g1, g2⟩, ⟨z0, z1, z2, z3, z4, z5⟩, hz⟩ := boxes3_facts B)
        | (go_at_call 225; refine (truth_any _ _).mono ?_; rintro e w1 ⟨rfl, hb1⟩; replace B := below_step B hb1; clear hb1; rw [Val.open_]; obtain ⟨⟨a0, a1, a2⟩, ⟨b0, b1, b2⟩, ⟨f0, f1, f2⟩, ⟨g0, g1, g2⟩, ⟨z0, z1, z2, z3, z4, z5⟩, hz⟩ := boxes3_facts B))
        refine bodyPost_ret (v := (truthV (o == 0)).v) (by simp [results, Tryz.results200, go_sem, Val.v, *]) rfl ⟨rfl, ?_⟩
        exact ((((boxes3_below B).setCell (by simp <;> omega) _).setCell (by simp <;> omega) _).setCell (by simp <;> omega) _)
      rcases Bool.eq_false_or_eq_true (op == 13) with h13 | h13
      · rw [testR_some (t := (o != 0)) (by simp [testB, *])]
        go_enter Tryz.func200, Tryz.ntmps200
        go_wp2_with (first
        | (go_at_call_of 226 (Value.agg #[Value.int IntKind.i64 a.k, Value.int IntKind.i64 a.n, Value.string a.s]); refine (unhide HA _).mono ?_; rintro e w1 ⟨rfl, hb1⟩; replace B := below_step B hb1; clear hb1; obtain ⟨⟨a0, a1, a2⟩, ⟨b0, b1, b2⟩, ⟨f0, f1, f2⟩, ⟨g0, g1, g2⟩, ⟨z0, z1, z2, z3, z4, z5⟩, hz⟩ := boxes3_facts B)
        | (go_at_call_of 226 (Value.agg #[Value.int IntKind.i64 b.k, Value.int IntKind.i64 b.n, Value.string b.s]); refine (unhide HB _).mono ?_; rintro e w1 ⟨rfl, hb1⟩; replace B := below_step B hb1; clear hb1; obtain ⟨⟨a0, a1, a2⟩, ⟨b0, b1, b2⟩, ⟨f0, f1, f2⟩, ⟨g0, g1, g2⟩, ⟨z0, z1, z2, z3, z4, z5⟩, hz⟩ := boxes3_facts B)
        | (go_at_call 180; refine (unhide HO _).mono ?_; rintro e w1 ⟨rfl, hb1⟩; replace B := below_step B hb1; clear hb1; obtain ⟨⟨a0, a1, a2⟩, ⟨b0, b1, b2⟩, ⟨f0, f1, f2⟩, ⟨g0, g1, g2⟩, ⟨z0, z1, z2, z3, z4, z5⟩, hz⟩ := boxes3_facts B)
        | (go_at_call 225; refine (truth_any _ _).mono ?_; rintro e w1 ⟨rfl, hb1⟩; replace B := below_step B hb1; clear hb1; rw [Val.open_]; obtain ⟨⟨a0, a1, a2⟩, ⟨b0, b1, b2⟩, ⟨f0, f1, f2⟩, ⟨g0, g1, g2⟩, ⟨z0, z1, z2, z3, z4, z5⟩, hz⟩ := boxes3_facts B))
        refine bodyPost_ret (v := (truthV (o != 0)).v) (by simp [results, Tryz.results200, go_sem, Val.v, *]) rfl ⟨rfl, ?_⟩
        exact ((((boxes3_below B).setCell (by simp <;> omega) _).setCell (by simp <;> omega) _).setCell (by simp <;> omega) _)
      rcases Bool.eq_false_or_eq_true (op == 14) with h14 | h14
      · rw [testR_some (t := (decide (o < 0))) (by simp [testB, *])]
        go_enter Tryz.func200, Tryz.ntmps200
        go_wp2_with (first
        | (go_at_call_of 226 (Value.agg #[Value.int IntKind.i64 a.k, Value.int IntKind.i64 a.n, Value.string a.s]); refine (unhide HA _).mono ?_; rintro e w1 ⟨rfl, hb1⟩; replace B := below_step B hb1; clear hb1; obtain ⟨⟨a0, a1, a2⟩, ⟨b0, b1, b2⟩, ⟨f0, f1, f2⟩, ⟨g0, g1, g2⟩, ⟨z0, z1, z2, z3, z4, z5⟩, hz⟩ := boxes3_facts B)
        | (go_at_call_of 226 (Value.agg #[Value.int IntKind.i64 b.k, Value.int IntKind.i64 b.n, Value.string b.s]); refine (unhide HB _).mono ?_; rintro e w1 ⟨rfl, hb1⟩; replace B := below_step B hb1; clear hb1; obtain ⟨⟨a0, a1, a2⟩, ⟨b0, b1, b2⟩, ⟨f0, f1, f2⟩, ⟨g0, g1, g2⟩, ⟨z0, z1, z2, z3, z4, z5⟩, hz⟩ := boxes3_facts B)
        | (go_at_call 180; refine (unhide HO _).mono ?_; rintro e w1 ⟨rfl, hb1⟩; replace B := below_step B hb1; clear hb1; obtain ⟨⟨a0, a1, a2⟩, ⟨b0, b1, b2⟩, ⟨f0, f1, f2⟩, ⟨g0, g1, g2⟩, ⟨z0, z1, z2, z3, z4, z5⟩, hz⟩ := boxes3_facts B)
        | (go_at_call 225; refine (truth_any _ _).mono ?_; rintro e w1 ⟨rfl, hb1⟩; replace B := below_step B hb1; clear hb1; rw [Val.open_]; obtain ⟨⟨a0, a1, a2⟩, ⟨b0, b1, b2⟩, ⟨f0, f1, f2⟩, ⟨g0, g1, g2⟩, ⟨z0, z1, z2, z3, z4, z5⟩, hz⟩ := boxes3_facts B))
        refine bodyPost_ret (v := (truthV (decide (o < 0))).v) (by simp [results, Tryz.results200, go_sem, Val.v, *]) rfl ⟨rfl, ?_⟩
        exact ((((boxes3_below B).setCell (by simp <;> omega) _).setCell (by simp <;> omega) _).setCell (by simp <;> omega) _)
      rcases Bool.eq_false_or_eq_true (op == 15) with h15 | h15
      · rw [testR_some (t := (decide (o ≤ 0))) (by simp [testB, *])]
        go_enter Tryz.func200, Tryz.ntmps200
        go_wp2_with (first
        | (go_at_call_of 226 (Value.agg #[Value.int IntKind.i64 a.k, Value.int IntKind.i64 a.n, Value.string a.s]); refine (unhide HA _).mono ?_; rintro e w1 ⟨rfl, hb1⟩; replace B := below_step B hb1; clear hb1; obtain ⟨⟨a0, a1, a2⟩, ⟨b0, b1, b2⟩, ⟨f0, f1, f2⟩, ⟨g0, g1, g2⟩, ⟨z0, z1, z2, z3, z4, z5⟩, hz⟩ := boxes3_facts B)
        | (go_at_call_of 226 (Value.agg #[Value.int IntKind.i64 b.k, Value.int IntKind.i64 b.n, Value.string b.s]); refine (unhide HB _).mono ?_; rintro e w1 ⟨rfl, hb1⟩; replace B := below_step B hb1; clear hb1; obtain ⟨⟨a0, a1, a2⟩, ⟨b0, b1, b2⟩, ⟨f0, f1, f2⟩, ⟨g0, g1, g2⟩, ⟨z0, z1, z2, z3, z4, z5⟩, hz⟩ := boxes3_facts B)
        | (go_at_call 180; refine (unhide HO _).mono ?_; rintro e w1 ⟨rfl, hb1⟩; replace B := below_step B hb1; clear hb1; obtain ⟨⟨a0, a1, a2⟩, ⟨b0, b1, b2⟩, ⟨f0, f1, f2⟩, ⟨g0, g1, g2⟩, ⟨z0, z1, z2, z3, z4, z5⟩, hz⟩ := boxes3_facts B)
        | (go_at_call 225; refine (truth_any _ _).mono ?_; rintro e w1 ⟨rfl, hb1⟩; replace B := below_step B hb1; clear hb1; rw [Val.open_]; obtain ⟨⟨a0, a1, a2⟩, ⟨b0, b1, b2⟩, ⟨f0, f1, f2⟩, ⟨g0, g1, g2⟩, ⟨z0, z1, z2, z3, z4, z5⟩, hz⟩ := boxes3_facts B))
        refine bodyPost_ret (v := (truthV (decide (o ≤ 0))).v) (by simp [results, Tryz.results200, go_sem, Val.v, *]) rfl ⟨rfl, ?_⟩
        exact ((((boxes3_below B).setCell (by simp <;> omega) _).setCell (by simp <;> omega) _).setCell (by simp <;> omega) _)
      rcases Bool.eq_false_or_eq_true (op == 16) with h16 | h16
      · rw [testR_some (t := (decide (0 < o))) (by simp [testB, *])]
        go_enter Tryz.func200, Tryz.ntmps200
        go_wp2_with (first
        | (go_at_call_of 226 (Value.agg #[Value.int IntKind.i64 a.k, Value.int IntKind.i64 a.n, Value.string a.s]); refine (unhide HA _).mono ?_; rintro e w1 ⟨rfl, hb1⟩; replace B := below_step B hb1; clear hb1; obtain ⟨⟨a0, a1, a2⟩, ⟨b0, b1, b2⟩, ⟨f0, f1, f2⟩, ⟨g0, g1, g2⟩, ⟨z0, z1, z2, z3, z4, z5⟩, hz⟩ := boxes3_facts B)
        | (go_at_call_of 226 (Value.agg #[Value.int IntKind.i64 b.k, Value.int IntKind.i64 b.n, Value.string b.s]); refine (unhide HB _).mono ?_; rintro e w1 ⟨rfl, hb1⟩; replace B := below_step B hb1; clear hb1; obtain ⟨⟨a0, a1, a2⟩, ⟨b0, b1, b2⟩, ⟨f0, f1, f2⟩, ⟨g0, g1, g2⟩, ⟨z0, z1, z2, z3, z4, z5⟩, hz⟩ := boxes3_facts B)
        | (go_at_call 180; refine (unhide HO _).mono ?_; rintro e w1 ⟨rfl, hb1⟩; replace B := below_step B hb1; clear hb1; obtain ⟨⟨a0, a1, a2⟩, ⟨b0, b1, b2⟩, ⟨f0, f1, f2⟩, ⟨g0, g1, g2⟩, ⟨z0, z1, z2, z3, z4, z5⟩, hz⟩ := boxes3_facts B)
        | (go_at_call 225; refine (truth_any _ _).mono ?_; rintro e w1 ⟨rfl, hb1⟩; replace B := below_step B hb1; clear hb1; rw [Val.open_]; obtain ⟨⟨a0, a1, a2⟩, ⟨b0, b1, b2⟩, ⟨f0, f1, f2⟩, ⟨g0, g1, g2⟩, ⟨z0, z1, z2, z3, z4, z5⟩, hz⟩ := boxes3_facts B))
        refine bodyPost_ret (v := (truthV (decide (0 < o))).v) (by simp [results, Tryz.results200, go_sem, Val.v, *]) rfl ⟨rfl, ?_⟩
        exact ((((boxes3_below B).setCell (by simp <;> omega) _).setCell (by simp <;> omega) _).setCell (by simp <;> omega) _)
      rcases Bool.eq_false_or_eq_true (op == 17) with h17 | h17
      · rw [testR_some (t := (decide (0 ≤ o))) (by simp [testB, *])]
        go_enter Tryz.func200, Tryz.ntmps200
        go_wp2_with (first
        | (go_at_call_of 226 (Value.agg #[Value.int IntKind.i64 a.k, Value.int IntKind.i64 a.n, Value.string a.s]); refine (unhide HA _).mono ?_; rintro e w1 ⟨rfl, hb1⟩; replace B := below_step B hb1; clear hb1; obtain ⟨⟨a0, a1, a2⟩, ⟨b0, b1, b2⟩, ⟨f0, f1, f2⟩, ⟨g0, g1, g2⟩, ⟨z0, z1, z2, z3, z4, z5⟩, hz⟩ := boxes3_facts B)
        | (go_at_call_of 226 (Value.agg #[Value.int IntKind.i64 b.k, Value.int IntKind.i64 b.n, Value.string b.s]); refine (unhide HB _).mono ?_; rintro e w1 ⟨rfl, hb1⟩; replace B := below_step B hb1; clear hb1; obtain ⟨⟨a0, a1, a2⟩, ⟨b0, b1, b2⟩, ⟨f0, f1, f2⟩, ⟨g0, g1, g2⟩, ⟨z0, z1, z2, z3, z4, z5⟩, hz⟩ := boxes3_facts B)
        | (go_at_call 180; refine (unhide HO _).mono ?_; rintro e w1 ⟨rfl, hb1⟩; replace B := below_step B hb1; clear hb1; obtain ⟨⟨a0, a1, a2⟩, ⟨b0, b1, b2⟩, ⟨f0, f1, f2⟩, ⟨g0, g1, g2⟩, ⟨z0, z1, z2, z3, z4, z5⟩, hz⟩ := boxes3_facts B)
        | (go_at_call 225; refine (truth_any _ _).mono ?_; rintro e w1 ⟨rfl, hb1⟩; replace B := below_step B hb1; clear hb1; rw [Val.open_]; obtain ⟨⟨a0, a1, a2⟩, ⟨b0, b1, b2⟩, ⟨f0, f1, f2⟩, ⟨g0, g1, g2⟩, ⟨z0, z1, z2, z3, z4, z5⟩, hz⟩ := boxes3_facts B))
        refine bodyPost_ret (v := (truthV (decide (0 ≤ o))).v) (by simp [results, Tryz.results200, go_sem, Val.v, *]) rfl ⟨rfl, ?_⟩
        exact ((((boxes3_below B).setCell (by simp <;> omega) _).setCell (by simp <;> omega) _).setCell (by simp <;> omega) _)
      rw [testR_none (by simp [testB, *])]
      go_enter Tryz.func200, Tryz.ntmps200
      go_wp2_with (first
        | (go_at_call_of 226 (Value.agg #[Value.int IntKind.i64 a.k, Value.int IntKind.i64 a.n, Value.string a.s]); refine (unhide HA _).mono ?_; rintro e w1 ⟨rfl, hb1⟩; replace B := below_step B hb1; clear hb1; obtain ⟨⟨a0, a1, a2⟩, ⟨b0, b1, b2⟩, ⟨f0, f1, f2⟩, ⟨g0, g1, g2⟩, ⟨z0, z1, z2, z3, z4, z5⟩, hz⟩ := boxes3_facts B)
        | (go_at_call_of 226 (Value.agg #[Value.int IntKind.i64 b.k, Value.int IntKind.i64 b.n, Value.string b.s]); refine (unhide HB _).mono ?_; rintro e w1 ⟨rfl, hb1⟩; replace B := below_step B hb1; clear hb1; obtain ⟨⟨a0, a1, a2⟩, ⟨b0, b1, b2⟩, ⟨f0, f1, f2⟩, ⟨g0, g1, g2⟩, ⟨z0, z1, z2, z3, z4, z5⟩, hz⟩ := boxes3_facts B)
        | (go_at_call 180; refine (unhide HO _).mono ?_; rintro e w1 ⟨rfl, hb1⟩; replace B := below_step B hb1; clear hb1; obtain ⟨⟨a0, a1, a2⟩, ⟨b0, b1, b2⟩, ⟨f0, f1, f2⟩, ⟨g0, g1, g2⟩, ⟨z0, z1, z2, z3, z4, z5⟩, hz⟩ := boxes3_facts B))
      refine bodyPost_ret (v := Val.null.v) (by simp [results, Tryz.results200, go_sem, Val.v, Val.null, *]) rfl ⟨rfl, ?_⟩
      exact ((((boxes3_below B).setCell (by simp <;> omega) _).setCell (by simp <;> omega) _).setCell (by simp <;> omega) _)
    · simp only [Bool.or_true, if_true]
      go_enter Tryz.func200, Tryz.ntmps200
      go_wp2_with (first
        | (go_at_call_of 226 (Value.agg #[Value.int IntKind.i64 a.k, Value.int IntKind.i64 a.n, Value.string a.s]); refine (unhide HA _).mono ?_; rintro e w1 ⟨rfl, hb1⟩; replace B := below_step B hb1; clear hb1; obtain ⟨⟨a0, a1, a2⟩, ⟨b0, b1, b2⟩, ⟨f0, f1, f2⟩, ⟨g0, g1, g2⟩, ⟨z0, z1, z2, z3, z4, z5⟩, hz⟩ := boxes3_facts B)
        | (go_at_call_of 226 (Value.agg #[Value.int IntKind.i64 b.k, Value.int IntKind.i64 b.n, Value.string b.s]); refine (unhide HB _).mono ?_; rintro e w1 ⟨rfl, hb1⟩; replace B := below_step B hb1; clear hb1; obtain ⟨⟨a0, a1, a2⟩, ⟨b0, b1, b2⟩, ⟨f0, f1, f2⟩, ⟨g0, g1, g2⟩, ⟨z0, z1, z2, z3, z4, z5⟩, hz⟩ := boxes3_facts B)
        | (go_at_call 180; refine (unhide HO _).mono ?_; rintro e w1 ⟨rfl, hb1⟩; replace B := below_step B hb1; clear hb1; obtain ⟨⟨a0, a1, a2⟩, ⟨b0, b1, b2⟩, ⟨f0, f1, f2⟩, ⟨g0, g1, g2⟩, ⟨z0, z1, z2, z3, z4, z5⟩, hz⟩ := boxes3_facts B))
      refine bodyPost_ret (v := Val.null.v) (by simp [results, Tryz.results200, go_sem, Val.v, Val.null, *]) rfl ⟨rfl, ?_⟩
      exact ((((boxes3_below B).setCell (by simp <;> omega) _).setCell (by simp <;> omega) _).setCell (by simp <;> omega) _)
  · simp only [Bool.true_or, if_true]
    go_enter Tryz.func200, Tryz.ntmps200
    go_wp2_with (first
        | (go_at_call_of 226 (Value.agg #[Value.int IntKind.i64 a.k, Value.int IntKind.i64 a.n, Value.string a.s]); refine (unhide HA _).mono ?_; rintro e w1 ⟨rfl, hb1⟩; replace B := below_step B hb1; clear hb1; obtain ⟨⟨a0, a1, a2⟩, ⟨b0, b1, b2⟩, ⟨f0, f1, f2⟩, ⟨g0, g1, g2⟩, ⟨z0, z1, z2, z3, z4, z5⟩, hz⟩ := boxes3_facts B)
        | (go_at_call_of 226 (Value.agg #[Value.int IntKind.i64 b.k, Value.int IntKind.i64 b.n, Value.string b.s]); refine (unhide HB _).mono ?_; rintro e w1 ⟨rfl, hb1⟩; replace B := below_step B hb1; clear hb1; obtain ⟨⟨a0, a1, a2⟩, ⟨b0, b1, b2⟩, ⟨f0, f1, f2⟩, ⟨g0, g1, g2⟩, ⟨z0, z1, z2, z3, z4, z5⟩, hz⟩ := boxes3_facts B)
        | (go_at_call 180; refine (unhide HO _).mono ?_; rintro e w1 ⟨rfl, hb1⟩; replace B := below_step B hb1; clear hb1; obtain ⟨⟨a0, a1, a2⟩, ⟨b0, b1, b2⟩, ⟨f0, f1, f2⟩, ⟨g0, g1, g2⟩, ⟨z0, z1, z2, z3, z4, z5⟩, hz⟩ := boxes3_facts B))
    refine bodyPost_ret (v := Val.null.v) (by simp [results, Tryz.results200, go_sem, Val.v, Val.null, *]) rfl ⟨rfl, ?_⟩
    exact ((((boxes3_below B).setCell (by simp <;> omega) _).setCell (by simp <;> omega) _).setCell (by simp <;> omega) _)

theorem clean_clean (x : Val) : cleanV (cleanV x) = cleanV x := by
  unfold cleanV
  rcases Bool.eq_false_or_eq_true (x.k == 1) with h1 | h1 <;> rcases Bool.eq_false_or_eq_true (x.k == 2) with h2 | h2 <;> simp [h1, h2, Val.num, Val.str, Val.null]
theorem ord_clean (a b : Val) : ordV (cleanV a) (cleanV b) = ordV a b := by unfold ordV; rw [clean_clean, clean_clean]

set_option maxHeartbeats 4000000 in
set_option maxRecDepth 100000 in
theorem rtest_any (op : Int) (a b : Val) (w : World) :
    Calls Tryz.prog 108 #[.int .i64 op, a.v, b.v] w fun e w' => e = .returned (testV op a b).v ∧ Below w.heap.size w w' := by
  rw [a.open_, b.open_]
  unfold testV
  have HA := hide (rclean_any a)
  have HB := hide (rclean_any b)
  have HO := hide (rorder_any (cleanV a) (cleanV b))
  rw [ord_clean] at HO
  unfold nullB
  generalize cleanV a = ca at *
  generalize cleanV b = cb at *
  generalize ordV a b = o at *
  generalize hr : (if ((ca.k == 0) || (cb.k == 0)) = true then Val.null else testR op o) = r at *
  have HR := hide hr
  clear hr
  go_enter Tryz.func108, Tryz.ntmps108
  go_upto_region 1 with fail
  go_cut [] (fun wx => BoxAt wx w.heap.size ca ∧ BoxAt wx (w.heap.size + 1) cb ∧ ZeroAt wx (w.heap.size + 1 + 1) ∧ Below w.heap.size w wx)
  case first =>
    go_region_with (first
      | (go_at_call_of 97 (Value.agg #[Value.int IntKind.i64 a.k, Value.int IntKind.i64 a.n, Value.string a.s]); refine (unhide HA _).mono ?_; rintro e w1 ⟨rfl, hb1⟩; rw [Val.open_]; have B1 := below_step (boxes3_drew w a b) hb1; obtain ⟨⟨a0, a1, a2⟩, ⟨b0, b1, b2⟩, ⟨f0, f1, f2⟩, ⟨g0, g1, g2⟩, ⟨z0, z1, z2, z3, z4, z5⟩, hz⟩ := boxes3_facts B1)
      | (go_at_call_of 97 (Value.agg #[Value.int IntKind.i64 b.k, Value.int IntKind.i64 b.n, Value.string b.s]); refine (unhide HB _).mono ?_; rintro e w2 ⟨rfl, hb2⟩; rw [Val.open_]; have B2 := below_step B1 hb2; obtain ⟨⟨a0, a1, a2⟩, ⟨b0, b1, b2⟩, ⟨f0, f1, f2⟩, ⟨g0, g1, g2⟩, ⟨z0, z1, z2, z3, z4, z5⟩, hz⟩ := boxes3_facts B2))
    all_goals
      go_wp2_with fail
      go_meet
      exact put_two3 ca cb B2
  case rest =>
    obtain ⟨⟨a0, a1, a2⟩, ⟨b0, b1, b2⟩, hZ, hbel⟩ := hcut
    have hz := hZ
    obtain ⟨z0, z1, z2, z3, z4, z5⟩ := hz
    clear HA HB
    rename World => wa
    have hsz : w.heap.size ≤ wa.heap.size := hbel.size
    rcases Bool.eq_false_or_eq_true (ca.k == 0) with ka | ka
    · have E : Hid (Val.null = r) := by have := unhide HR; rw [ka] at this; exact hide (by simpa using this)
      clear HR
      go_wp2_with (go_at_call 72; refine (none_any _).mono ?_; rintro e w2 ⟨rfl, hb2⟩; obtain ⟨y0, y1, y2, y3, y4, y5⟩ := hZ.later hb2; replace hbel := below_step hbel hb2; rw [Val.open_]; simp only [Val.null])
      refine bodyPost_ret (v := Val.null.v) (by simp [results, Tryz.results108, go_sem, Val.v, Val.null, *]) rfl ⟨by rw [unhide E], ?_⟩
      exact (((hbel.setCell (by simp <;> omega) _).setCell (by simp <;> omega) _).setCell (by simp <;> omega) _)
    rcases Bool.eq_false_or_eq_true (cb.k == 0) with kb | kb
    · have E : Hid (Val.null = r) := by have := unhide HR; rw [ka, kb] at this; exact hide (by simpa using this)
      clear HR
      go_wp2_with (go_at_call 72; refine (none_any _).mono ?_; rintro e w2 ⟨rfl, hb2⟩; obtain ⟨y0, y1, y2, y3, y4, y5⟩ := hZ.later hb2; replace hbel := below_step hbel hb2; rw [Val.open_]; simp only [Val.null])
      refine bodyPost_ret (v := Val.null.v) (by simp [results, Tryz.results108, go_sem, Val.v, Val.null, *]) rfl ⟨by rw [unhide E], ?_⟩
      exact (((hbel.setCell (by simp <;> omega) _).setCell (by simp <;> omega) _).setCell (by simp <;> omega) _)
    have E0 : Hid (testR op o = r) := by have := unhide HR; rw [ka, kb] at this; exact hide (by simpa using this)
    clear HR
    rcases Bool.eq_false_or_eq_true (op == 12) with h12 | h12
    · have E : Hid (truthV (o == 0) = r) := by have := unhide E0; rw [testR_some (t := (o == 0)) (by simp [testB, *])] at this; exact this
      clear E0
      go_wp2_with (first | (go_at_call 159; refine (unhide HO _).mono ?_; rintro e w1 ⟨rfl, hb1⟩; replace hbel := below_step hbel hb1; have hZ1 := hZ.later hb1; clear hb1; have hZ2 := hZ1; obtain ⟨z0, z1, z2, z3, z4, z5⟩ := hZ2) | (go_at_call 107; refine (rtruth_any _ _).mono ?_; rintro e w2 ⟨rfl, hb2⟩; obtain ⟨y0, y1, y2, y3, y4, y5⟩ := hZ1.later hb2; replace hbel := below_step hbel hb2; rw [Val.open_]))
      refine bodyPost_ret (v := (truthV (o == 0)).v) (by simp [results, Tryz.results108, go_sem, Val.v, Val.null, *]) rfl ⟨by rw [unhide E], ?_⟩
      exact (((hbel.setCell (by simp <;> omega) _).setCell (by simp <;> omega) _).setCell (by simp <;> omega) _)
    rcases Bool.eq_false_or_eq_true (op == 13) with h13 | h13
    · have E : Hid (truthV (o != 0) = r) := by have := unhide E0; rw [testR_some (t := (o != 0)) (by simp [testB, *])] at this; exact this
      clear E0
      go_wp2_with (first | (go_at_call 159; refine (unhide HO _).mono ?_; rintro e w1 ⟨rfl, hb1⟩; replace hbel := below_step hbel hb1; have hZ1 := hZ.later hb1; clear hb1; have hZ2 := hZ1; obtain ⟨z0, z1, z2, z3, z4, z5⟩ := hZ2) | (go_at_call 107; refine (rtruth_any _ _).mono ?_; rintro e w2 ⟨rfl, hb2⟩; obtain ⟨y0, y1, y2, y3, y4, y5⟩ := hZ1.later hb2; replace hbel := below_step hbel hb2; rw [Val.open_]))
      refine bodyPost_ret (v := (truthV (o != 0)).v) (by simp [results, Tryz.results108, go_sem, Val.v, Val.null, *]) rfl ⟨by rw [unhide E], ?_⟩
      exact (((hbel.setCell (by simp <;> omega) _).setCell (by simp <;> omega) _).setCell (by simp <;> omega) _)
    rcases Bool.eq_false_or_eq_true (op == 14) with h14 | h14
    · have E : Hid (truthV (decide (o < 0)) = r) := by have := unhide E0; rw [testR_some (t := (decide (o < 0))) (by simp [testB, *])] at this; exact this
      clear E0
      go_wp2_with (first | (go_at_call 159; refine (unhide HO _).mono ?_; rintro e w1 ⟨rfl, hb1⟩; replace hbel := below_step hbel hb1; have hZ1 := hZ.later hb1; clear hb1; have hZ2 := hZ1; obtain ⟨z0, z1, z2, z3, z4, z5⟩ := hZ2) | (go_at_call 107; refine (rtruth_any _ _).mono ?_; rintro e w2 ⟨rfl, hb2⟩; obtain ⟨y0, y1, y2, y3, y4, y5⟩ := hZ1.later hb2; replace hbel := below_step hbel hb2; rw [Val.open_]))
      refine bodyPost_ret (v := (truthV (decide (o < 0))).v) (by simp [results, Tryz.results108, go_sem, Val.v, Val.null, *]) rfl ⟨by rw [unhide E], ?_⟩
      exact (((hbel.setCell (by simp <;> omega) _).setCell (by simp <;> omega) _).setCell (by simp <;> omega) _)
    rcases Bool.eq_false_or_eq_true (op == 15) with h15 | h15
    · have E : Hid (truthV (decide (o ≤ 0)) = r) := by have := unhide E0; rw [testR_some (t := (decide (o ≤ 0))) (by simp [testB, *])] at this; exact this
      clear E0
      go_wp2_with (first | (go_at_call 159; refine (unhide HO _).mono ?_; rintro e w1 ⟨rfl, hb1⟩; replace hbel := below_step hbel hb1; have hZ1 := hZ.later hb1; clear hb1; have hZ2 := hZ1; obtain ⟨z0, z1, z2, z3, z4, z5⟩ := hZ2) | (go_at_call 107; refine (rtruth_any _ _).mono ?_; rintro e w2 ⟨rfl, hb2⟩; obtain ⟨y0, y1, y2, y3, y4, y5⟩ := hZ1.later hb2; replace hbel := below_step hbel hb2; rw [Val.open_]))
      refine bodyPost_ret (v := (truthV (decide (o ≤ 0))).v) (by simp [results, Tryz.results108, go_sem, Val.v, Val.null, *]) rfl ⟨by rw [unhide E], ?_⟩
      exact (((hbel.setCell (by simp <;> omega) _).setCell (by simp <;> omega) _).setCell (by simp <;> omega) _)
    rcases Bool.eq_false_or_eq_true (op == 16) with h16 | h16
    · have E : Hid (truthV (decide (0 < o)) = r) := by have := unhide E0; rw [testR_some (t := (decide (0 < o))) (by simp [testB, *])] at this; exact this
      clear E0
      go_wp2_with (first | (go_at_call 159; refine (unhide HO _).mono ?_; rintro e w1 ⟨rfl, hb1⟩; replace hbel := below_step hbel hb1; have hZ1 := hZ.later hb1; clear hb1; have hZ2 := hZ1; obtain ⟨z0, z1, z2, z3, z4, z5⟩ := hZ2) | (go_at_call 107; refine (rtruth_any _ _).mono ?_; rintro e w2 ⟨rfl, hb2⟩; obtain ⟨y0, y1, y2, y3, y4, y5⟩ := hZ1.later hb2; replace hbel := below_step hbel hb2; rw [Val.open_]))
      refine bodyPost_ret (v := (truthV (decide (0 < o))).v) (by simp [results, Tryz.results108, go_sem, Val.v, Val.null, *]) rfl ⟨by rw [unhide E], ?_⟩
      exact (((hbel.setCell (by simp <;> omega) _).setCell (by simp <;> omega) _).setCell (by simp <;> omega) _)
    rcases Bool.eq_false_or_eq_true (op == 17) with h17 | h17
    · have E : Hid (truthV (decide (0 ≤ o)) = r) := by have := unhide E0; rw [testR_some (t := (decide (0 ≤ o))) (by simp [testB, *])] at this; exact this
      clear E0
      go_wp2_with (first | (go_at_call 159; refine (unhide HO _).mono ?_; rintro e w1 ⟨rfl, hb1⟩; replace hbel := below_step hbel hb1; have hZ1 := hZ.later hb1; clear hb1; have hZ2 := hZ1; obtain ⟨z0, z1, z2, z3, z4, z5⟩ := hZ2) | (go_at_call 107; refine (rtruth_any _ _).mono ?_; rintro e w2 ⟨rfl, hb2⟩; obtain ⟨y0, y1, y2, y3, y4, y5⟩ := hZ1.later hb2; replace hbel := below_step hbel hb2; rw [Val.open_]))
      refine bodyPost_ret (v := (truthV (decide (0 ≤ o))).v) (by simp [results, Tryz.results108, go_sem, Val.v, Val.null, *]) rfl ⟨by rw [unhide E], ?_⟩
      exact (((hbel.setCell (by simp <;> omega) _).setCell (by simp <;> omega) _).setCell (by simp <;> omega) _)
    have E : Hid (Val.null = r) := by have := unhide E0; rw [testR_none (by simp [testB, *])] at this; exact this
    clear E0
    go_wp2_with (first | (go_at_call 159; refine (unhide HO _).mono ?_; rintro e w1 ⟨rfl, hb1⟩; replace hbel := below_step hbel hb1; have hZ1 := hZ.later hb1; clear hb1; have hZ2 := hZ1; obtain ⟨z0, z1, z2, z3, z4, z5⟩ := hZ2) | (go_at_call 72; refine (none_any _).mono ?_; rintro e w2 ⟨rfl, hb2⟩; obtain ⟨y0, y1, y2, y3, y4, y5⟩ := hZ1.later hb2; replace hbel := below_step hbel hb2; rw [Val.open_]; simp only [Val.null]))
    refine bodyPost_ret (v := Val.null.v) (by simp [results, Tryz.results108, go_sem, Val.v, Val.null, *]) rfl ⟨by rw [unhide E], ?_⟩
    exact (((hbel.setCell (by simp <;> omega) _).setCell (by simp <;> omega) _).setCell (by simp <;> omega) _)

end Go.Proofs.YtmjeiepljlepbacGreat
