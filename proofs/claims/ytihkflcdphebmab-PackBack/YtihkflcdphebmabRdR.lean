import Derived.Test.YtihkflcdphebmabRdQ
set_option linter.unusedSimpArgs false
set_option linter.unusedVariables false
namespace Go.Proofs.Ytihkflcdphebmab
open Go.RowKit Go.Sort

def truthV (b : Bool) : Val := .num (if b then 1 else 0)
set_option maxHeartbeats 400000 in
theorem truth_any (b : Bool) (w : World) :
    Calls Try.prog 69 #[.bool b] w fun e w' => e = .returned (truthV b).v ∧ Below w.heap.size w w' := by
  cases b <;>
  · go_enter Try.func69, Try.ntmps69
    go_wp2_with (go_at_call 55; refine (number_any _ _).mono ?_; rintro e w1 ⟨rfl, hb1⟩; obtain ⟨hc1, hf1⟩ := bcell hb1; rw [Val.open_])
    refine bodyPost_ret (v := (truthV _).v) (by simp [results, Try.results69, go_sem, truthV, Val.v, Val.num, hc1, hf1]) rfl ⟨rfl, ?_⟩
    exact ((((((Below.refl _ _).alloc (Nat.le_refl _) _).trans (hb1.mono (by simp))).setCell (by simp) _).setCell (by simp) _).setCell (by simp) _)

def ZeroAt (w : World) (b : Nat) : Prop := w.cell? ⟨b, 0, none⟩ = some (.int .i64 0) ∧ w.cell? ⟨b, 1, none⟩ = some (.int .i64 0) ∧ w.cell? ⟨b, 2, none⟩ = some (.string ⟨#[]⟩) ∧ w.frozen? ⟨b, 0, none⟩ = false ∧ w.frozen? ⟨b, 1, none⟩ = false ∧ w.frozen? ⟨b, 2, none⟩ = false
theorem ZeroAt.later {w w1 : World} {b : Nat} (h : ZeroAt w b) (hb : Below w.heap.size w w1) : ZeroAt w1 b := by
  obtain ⟨h0, h1, h2, f0, f1, f2⟩ := h
  obtain ⟨hc, hf⟩ := bcell hb
  have hl : b < w.heap.size := World.block_lt_of_cell? w _ h0
  unfold ZeroAt
  rw [hc _ _ hl, hc _ _ hl, hc _ _ hl, hf _ _ hl, hf _ _ hl, hf _ _ hl]
  exact ⟨h0, h1, h2, f0, f1, f2⟩
abbrev Zero23 : Obj := .cells #[.int .i64 0, .int .i64 0, .string ⟨#[]⟩] 40
def boxes3 (w : World) (a b : Val) : World := (boxes w a b).alloc Zero23
theorem boxes3_size (w : World) (a b : Val) : (boxes3 w a b).heap.size = w.heap.size + 1 + 1 + 1 := by simp [boxes3, boxes_size]
theorem boxes3_drew (w : World) (a b : Val) : Below (boxes3 w a b).heap.size (boxes3 w a b) (boxes3 w a b).drew := (Below.refl _ _).drew
theorem boxes3_facts {w w' : World} {a b : Val} (h : Below (boxes3 w a b).heap.size (boxes3 w a b) w') :
    BoxAt w' w.heap.size a ∧ BoxAt w' (w.heap.size + 1) b ∧ FreeAt w' w.heap.size ∧ FreeAt w' (w.heap.size + 1) ∧ ZeroAt w' (w.heap.size + 1 + 1) ∧ w.heap.size + 1 + 1 < w'.heap.size := by
  have hs := h.size
  rw [boxes3_size] at hs
  obtain ⟨hc, hf⟩ := bcell h
  refine ⟨⟨?_, ?_, ?_⟩, ⟨?_, ?_, ?_⟩, ⟨?_, ?_, ?_⟩, ⟨?_, ?_, ?_⟩, ⟨?_, ?_, ?_, ?_, ?_, ?_⟩, by omega⟩
  all_goals first | (rw [hc _ _ (by rw [boxes3_size]; omega)]; simp [boxes3, boxes, go_sem]; done) | (rw [hf _ _ (by rw [boxes3_size]; omega)]; simp [boxes3, boxes, go_sem]; done)
theorem boxes3_below {w w' : World} {a b : Val} (h : Below (boxes3 w a b).heap.size (boxes3 w a b) w') : Below w.heap.size w w' :=
  ((((Below.refl _ _).alloc (Nat.le_refl _) _).alloc (by simp) _).alloc (by simp; omega) _).trans (h.mono (by rw [boxes3_size]; omega))
def tnullB (x : Val) : Bool := (cleanV x).k == 0
theorem tnullB_eq (x : Val) : tnullB x = (x.k != 1 && x.k != 2) := by
  unfold tnullB cleanV
  rcases Bool.eq_false_or_eq_true (x.k == 1) with h1 | h1 <;> rcases Bool.eq_false_or_eq_true (x.k == 2) with h2 | h2 <;> simp [h1, h2, bne, Val.num, Val.str, Val.null]

theorem tisNull_any (x : Val) (w : World) :
    Calls Try.prog 67 #[x.v] w fun e w' => e = .returned (.bool (tnullB x)) ∧ Below w.heap.size w w' := by
  rw [x.open_, tnullB_eq]
  rcases Bool.eq_false_or_eq_true (x.k != 1) with hk | hk
  · go_enter Try.func67, Try.ntmps67
    go_wp2
    go_ret
    exact ⟨by simp [hk], (Below.refl _ _).alloc (Nat.le_refl _) _⟩
  · go_enter Try.func67, Try.ntmps67
    go_wp2
    go_ret
    exact ⟨by simp [hk], (Below.refl _ _).alloc (Nat.le_refl _) _⟩

def testB (op o : Int) : Option Bool :=
  if op == 12 then some (o == 0) else if op == 13 then some (o != 0) else if op == 14 then some (decide (o < 0)) else if op == 15 then some (decide (o ≤ 0)) else if op == 16 then some (decide (0 < o)) else if op == 17 then some (decide (0 ≤ o)) else none
def testR (op o : Int) : Val := match testB op o with | some t => truthV t | none => .null
def testV (op : Int) (a b : Val) : Val := if tnullB a || tnullB b then .null else testR op (ordV a b)

theorem testR_some {op o : Int} {t : Bool} (h : testB op o = some t) : testR op o = truthV t := by simp [testR, h]
theorem testR_none {op o : Int} (h : testB op o = none) : testR op o = .null := by simp [testR, h]

set_option maxHeartbeats 4000000 in
set_option maxRecDepth 100000 in
theorem test_any (op : Int) (a b : Val) (w : World) :
    Calls Try.prog 53 #[.int .i64 op, a.v, b.v] w fun e w' => e = .returned (testV op a b).v ∧ Below w.heap.size w w' := by
  rw [a.open_, b.open_]
  unfold testV
  have HA := hide (tisNull_any a)
  have HB := hide (tisNull_any b)
  have HO := hide (order_any a b)
  have B : Below (boxes3 w a b).heap.size (boxes3 w a b) (boxes3 w a b) := Below.refl _ _
  generalize ordV a b = o at *
  generalize tnullB a = na at *
  generalize tnullB b = nb at *
  cases na
  · cases nb
    · simp only [Bool.or_self, Bool.false_eq_true, if_false]
      rcases Bool.eq_false_or_eq_true (op == 12) with h12 | h12
      · rw [testR_some (t := (o == 0)) (by simp [testB, *])]
        go_enter Try.func53, Try.ntmps53
        go_wp2_with (first
        | (go_at_call_of 67 (Value.agg #[Value.int IntKind.i64 a.k, Value.int IntKind.i64 a.n, Value.string a.s]); refine (unhide HA _).mono ?_; rintro e w1 ⟨rfl, hb1⟩; replace B := below_step B hb1; clear hb1; obtain ⟨⟨a0, a1, a2⟩, ⟨b0, b1, b2⟩, ⟨f0, f1, f2⟩, ⟨g0, g1, g2⟩, ⟨z0, z1, z2, z3, z4, z5⟩, hz⟩ := boxes3_facts B)
        | (go_at_call_of 67 (Value.agg #[Value.int IntKind.i64 b.k, Value.int IntKind.i64 b.n, Value.string b.s]); refine (unhide HB _).mono ?_; rintro e w1 ⟨rfl, hb1⟩; replace B := below_step B hb1; clear hb1; obtain ⟨⟨a0, a1, a2⟩, ⟨b0, b1, b2⟩, ⟨f0, f1, f2⟩, ⟨g0, g1, g2⟩, ⟨z0, z1, z2, z3, z4, z5⟩, hz⟩ := boxes3_facts B)
        | (go_at_call 68; refine (unhide HO _).mono ?_; rintro e w1 ⟨rfl, hb1⟩; replace B := below_step B hb1; clear hb1; obtain ⟨⟨a0, a1, a2⟩, ⟨b0, b1, b2⟩, ⟨f0, f1, f2⟩, ⟨g0, g1, g2⟩, ⟨z0, z1, z2, z3, z4, z5⟩, hz⟩ := boxes3_facts B)
        | (go_at_call 69; refine (truth_any _ _).mono ?_; rintro e w1 ⟨rfl, hb1⟩; replace B := below_step B hb1; clear hb1; rw [Val.open_]; obtain ⟨⟨a0, a1, a2⟩, ⟨b0, b1, b2⟩, ⟨f0, f1, f2⟩, ⟨g0, g1, g2⟩, ⟨z0, z1, z2, z3, z4, z5⟩, hz⟩ := boxes3_facts B))
        refine bodyPost_ret (v := (truthV (o == 0)).v) (by simp [results, Try.results53, go_sem, Val.v, *]) rfl ⟨rfl, ?_⟩
        exact ((((boxes3_below B).setCell (by simp <;> omega) _).setCell (by simp <;> omega) _).setCell (by simp <;> omega) _)
      rcases Bool.eq_false_or_eq_true (op == 13) with h13 | h13
      · rw [testR_some (t := (o != 0)) (by simp [testB, *])]
        go_enter Try.func53, Try.ntmps53
        go_wp2_with (first
        | (go_at_call_of 67 (Value.agg #[Value.int IntKind.i64 a.k, Value.int IntKind.i64 a.n, Value.string a.s]); refine (unhide HA _).mono ?_; rintro e w1 ⟨rfl, hb1⟩; replace B := below_step B hb1; clear hb1; obtain ⟨⟨a0, a1, a2⟩, ⟨b0, b1, b2⟩, ⟨f0, f1, f2⟩, ⟨g0, g1, g2⟩, ⟨z0, z1, z2, z3, z4, z5⟩, hz⟩ := boxes3_facts B)
        | (go_at_call_of 67 (Value.agg #[Value.int IntKind.i64 b.k, Value.int IntKind.i64 b.n, Value.string b.s]); refine (unhide HB _).mono ?_; rintro e w1 ⟨rfl, hb1⟩; replace B := below_step B hb1; clear hb1; obtain ⟨⟨a0, a1, a2⟩, ⟨b0, b1, b2⟩, ⟨f0, f1, f2⟩, ⟨g0, g1, g2⟩, ⟨z0, z1, z2, z3, z4, z5⟩, hz⟩ := boxes3_facts B)
        | (go_at_call 68; refine (unhide HO _).mono ?_; rintro e w1 ⟨rfl, hb1⟩; replace B := below_step B hb1; clear hb1; obtain ⟨⟨a0, a1, a2⟩, ⟨b0, b1, b2⟩, ⟨f0, f1, f2⟩, ⟨g0, g1, g2⟩, ⟨z0, z1, z2, z3, z4, z5⟩, hz⟩ := boxes3_facts B)
        | (go_at_call 69; refine (truth_any _ _).mono ?_; rintro e w1 ⟨rfl, hb1⟩; replace B := below_step B hb1; clear hb1; rw [Val.open_]; obtain ⟨⟨a0, a1, a2⟩, ⟨b0, b1, b2⟩, ⟨f0, f1, f2⟩, ⟨g0, g1, g2⟩, ⟨z0, z1, z2, z3, z4, z5⟩, hz⟩ := boxes3_facts B))
        refine bodyPost_ret (v := (truthV (o != 0)).v) (by simp [results, Try.results53, go_sem, Val.v, *]) rfl ⟨rfl, ?_⟩
        exact ((((boxes3_below B).setCell (by simp <;> omega) _).setCell (by simp <;> omega) _).setCell (by simp <;> omega) _)
      rcases Bool.eq_false_or_eq_true (op == 14) with h14 | h14
      · rw [testR_some (t := (decide (o < 0))) (by simp [testB, *])]
        go_enter Try.func53, Try.ntmps53
        go_wp2_with (first
        | (go_at_call_of 67 (Value.agg #[Value.int IntKind.i64 a.k, Value.int IntKind.i64 a.n, Value.string a.s]); refine (unhide HA _).mono ?_; rintro e w1 ⟨rfl, hb1⟩; replace B := below_step B hb1; clear hb1; obtain ⟨⟨a0, a1, a2⟩, ⟨b0, b1, b2⟩, ⟨f0, f1, f2⟩, ⟨g0, g1, g2⟩, ⟨z0, z1, z2, z3, z4, z5⟩, hz⟩ := boxes3_facts B)
        | (go_at_call_of 67 (Value.agg #[Value.int IntKind.i64 b.k, Value.int IntKind.i64 b.n, Value.string b.s]); refine (unhide HB _).mono ?_; rintro e w1 ⟨rfl, hb1⟩; replace B := below_step B hb1; clear hb1; obtain ⟨⟨a0, a1, a2⟩, ⟨b0, b1, b2⟩, ⟨f0, f1, f2⟩, ⟨g0, g1, g2⟩, ⟨z0, z1, z2, z3, z4, z5⟩, hz⟩ := boxes3_facts B)
        | (go_at_call 68; refine (unhide HO _).mono ?_; rintro e w1 ⟨rfl, hb1⟩; replace B := below_step B hb1; clear hb1; obtain ⟨⟨a0, a1, a2⟩, ⟨b0, b1, b2⟩, ⟨f0, f1, f2⟩, ⟨g0, g1, g2⟩, ⟨z0, z1, z2, z3, z4, z5⟩, hz⟩ := boxes3_facts B)
        | (go_at_call 69; refine (truth_any _ _).mono ?_; rintro e w1 ⟨rfl, hb1⟩; replace B := below_step B hb1; clear hb1; rw [Val.open_]; obtain ⟨⟨a0, a1, a2⟩, ⟨b0, b1, b2⟩, ⟨f0, f1, f2⟩, ⟨g0, g1, g2⟩, ⟨z0, z1, z2, z3, z4, z5⟩, hz⟩ := boxes3_facts B))
        refine bodyPost_ret (v := (truthV (decide (o < 0))).v) (by simp [results, Try.results53, go_sem, Val.v, *]) rfl ⟨rfl, ?_⟩
        exact ((((boxes3_below B).setCell (by simp <;> omega) _).setCell (by simp <;> omega) _).setCell (by simp <;> omega) _)
      rcases Bool.eq_false_or_eq_true (op == 15) with h15 | h15
      · rw [testR_some (t := (decide (o ≤ 0))) (by simp [testB, *])]
        go_enter Try.func53, Try.ntmps53
        go_wp2_with (first
        | (go_at_call_of 67 (Value.agg #[Value.int IntKind.i64 a.k, Value.int IntKind.i64 a.n, Value.string a.s]); refine (unhide HA _).mono ?_; rintro e w1 ⟨rfl, hb1⟩; replace B := below_step B hb1; clear hb1; obtain ⟨⟨a0, a1, a2⟩, ⟨b0, b1, b2⟩, ⟨f0, f1, f2⟩, ⟨g0, g1, g2⟩, ⟨z0, z1, z2, z3, z4, z5⟩, hz⟩ := boxes3_facts B)
        | (go_at_call_of 67 (Value.agg #[Value.int IntKind.i64 b.k, Value.int IntKind.i64 b.n, Value.string b.s]); refine (unhide HB _).mono ?_; rintro e w1 ⟨rfl, hb1⟩; replace B := below_step B hb1; clear hb1; obtain ⟨⟨a0, a1, a2⟩, ⟨b0, b1, b2⟩, ⟨f0, f1, f2⟩, ⟨g0, g1, g2⟩, ⟨z0, z1, z2, z3, z4, z5⟩, hz⟩ := boxes3_facts B)
        | (go_at_call 68; refine (unhide HO _).mono ?_; rintro e w1 ⟨rfl, hb1⟩; replace B := below_step B hb1; clear hb1; obtain ⟨⟨a0, a1, a2⟩, ⟨b0, b1, b2⟩, ⟨f0, f1, f2⟩, ⟨g0, g1, g2⟩, ⟨z0, z1, z2, z3, z4, z5⟩, hz⟩ := boxes3_facts B)
        | (go_at_call 69; refine (truth_any _ _).mono ?_; rintro e w1 ⟨rfl, hb1⟩; replace B := below_step B hb1; clear hb1; rw [Val.open_]; obtain ⟨⟨a0, a1, a2⟩, ⟨b0, b1, b2⟩, ⟨f0, f1, f2⟩, ⟨g0, g1, g2⟩, ⟨z0, z1, z2, z3, z4, z5⟩, hz⟩ := boxes3_facts B))
        refine bodyPost_ret (v := (truthV (decide (o ≤ 0))).v) (by simp [results, Try.results53, go_sem, Val.v, *]) rfl ⟨rfl, ?_⟩
        exact ((((boxes3_below B).setCell (by simp <;> omega) _).setCell (by simp <;> omega) _).setCell (by simp <;> omega) _)
      rcases Bool.eq_false_or_eq_true (op == 16) with h16 | h16
      · rw [testR_some (t := (decide (0 < o))) (by simp [testB, *])]
        go_enter Try.func53, Try.ntmps53
        go_wp2_with (first
        | (go_at_call_of 67 (Value.agg #[Value.int IntKind.i64 a.k, Value.int IntKind.i64 a.n, Value.string a.s]); refine (unhide HA _).mono ?_; rintro e w1 ⟨rfl, hb1⟩; replace B := below_step B hb1; clear hb1; obtain ⟨⟨a0, a1, a2⟩, ⟨b0, b1, b2⟩, ⟨f0, f1, f2⟩, ⟨g0, g1, g2⟩, ⟨z0, z1, z2, z3, z4, z5⟩, hz⟩ := boxes3_facts B)
        | (go_at_call_of 67 (Value.agg #[Value.int IntKind.i64 b.k, Value.int IntKind.i64 b.n, Value.string b.s]); refine (unhide HB _).mono ?_; rintro e w1 ⟨rfl, hb1⟩; replace B := below_step B hb1; clear hb1; obtain ⟨⟨a0, a1, a2⟩, ⟨b0, b1, b2⟩, ⟨f0, f1, f2⟩, ⟨g0, g1, g2⟩, ⟨z0, z1, z2, z3, z4, z5⟩, hz⟩ := boxes3_facts B)
        | (go_at_call 68; refine (unhide HO _).mono ?_; rintro e w1 ⟨rfl, hb1⟩; replace B := below_step B hb1; clear hb1; obtain ⟨⟨a0, a1, a2⟩, ⟨b0, b1, b2⟩, ⟨f0, f1, f2⟩, ⟨g0, g1, g2⟩, ⟨z0, z1, z2, z3, z4, z5⟩, hz⟩ := boxes3_facts B)
        | (go_at_call 69; refine (truth_any _ _).mono ?_; rintro e w1 ⟨rfl, hb1⟩; replace B := below_step B hb1; clear hb1; rw [Val.open_]; obtain ⟨⟨a0, a1, a2⟩, ⟨b0, b1, b2⟩, ⟨f0, f1, f2⟩, ⟨g0, g1, g2⟩, ⟨z0, z1, z2, z3, z4, z5⟩, hz⟩ := boxes3_facts B))
        refine bodyPost_ret (v := (truthV (decide (0 < o))).v) (by simp [results, Try.results53, go_sem, Val.v, *]) rfl ⟨rfl, ?_⟩
        exact ((((boxes3_below B).setCell (by simp <;> omega) _).setCell (by simp <;> omega) _).setCell (by simp <;> omega) _)
      rcases Bool.eq_false_or_eq_true (op == 17) with h17 | h17
      · rw [testR_some (t := (decide (0 ≤ o))) (by simp [testB, *])]
        go_enter Try.func53, Try.ntmps53
        go_wp2_with (first
        | (go_at_call_of 67 (Value.agg #[Value.int IntKind.i64 a.k, Value.int IntKind.i64 a.n, Value.string a.s]); refine (unhide HA _).mono ?_; rintro e w1 ⟨rfl, hb1⟩; replace B := below_step B hb1; clear hb1; obtain ⟨⟨a0, a1, a2⟩, ⟨b0, b1, b2⟩, ⟨f0, f1, f2⟩, ⟨g0, g1, g2⟩, ⟨z0, z1, z2, z3, z4, z5⟩, hz⟩ := boxes3_facts B)
        | (go_at_call_of 67 (Value.agg #[Value.int IntKind.i64 b.k, Value.int IntKind.i64 b.n, Value.string b.s]); refine (unhide HB _).mono ?_; rintro e w1 ⟨rfl, hb1⟩; replace B := below_step B hb1; clear hb1; obtain ⟨⟨a0, a1, a2⟩, ⟨b0, b1, b2⟩, ⟨f0, f1, f2⟩, ⟨g0, g1, g2⟩, ⟨z0, z1, z2, z3, z4, z5⟩, hz⟩ := boxes3_facts B)
        | (go_at_call 68; refine (unhide HO _).mono ?_; rintro e w1 ⟨rfl, hb1⟩; replace B := below_step B hb1; clear hb1; obtain ⟨⟨a0, a1, a2⟩, ⟨b0, b1, b2⟩, ⟨f0, f1, f2⟩, ⟨g0, g1, g2⟩, ⟨z0, z1, z2, z3, z4, z5⟩, hz⟩ := boxes3_facts B)
        | (go_at_call 69; refine (truth_any _ _).mono ?_; rintro e w1 ⟨rfl, hb1⟩; replace B := below_step B hb1; clear hb1; rw [Val.open_]; obtain ⟨⟨a0, a1, a2⟩, ⟨b0, b1, b2⟩, ⟨f0, f1, f2⟩, ⟨g0, g1, g2⟩, ⟨z0, z1, z2, z3, z4, z5⟩, hz⟩ := boxes3_facts B))
        refine bodyPost_ret (v := (truthV (decide (0 ≤ o))).v) (by simp [results, Try.results53, go_sem, Val.v, *]) rfl ⟨rfl, ?_⟩
        exact ((((boxes3_below B).setCell (by simp <;> omega) _).setCell (by simp <;> omega) _).setCell (by simp <;> omega) _)
      rw [testR_none (by simp [testB, *])]
      go_enter Try.func53, Try.ntmps53
      go_wp2_with (first
        | (go_at_call_of 67 (Value.agg #[Value.int IntKind.i64 a.k, Value.int IntKind.i64 a.n, Value.string a.s]); refine (unhide HA _).mono ?_; rintro e w1 ⟨rfl, hb1⟩; replace B := below_step B hb1; clear hb1; obtain ⟨⟨a0, a1, a2⟩, ⟨b0, b1, b2⟩, ⟨f0, f1, f2⟩, ⟨g0, g1, g2⟩, ⟨z0, z1, z2, z3, z4, z5⟩, hz⟩ := boxes3_facts B)
        | (go_at_call_of 67 (Value.agg #[Value.int IntKind.i64 b.k, Value.int IntKind.i64 b.n, Value.string b.s]); refine (unhide HB _).mono ?_; rintro e w1 ⟨rfl, hb1⟩; replace B := below_step B hb1; clear hb1; obtain ⟨⟨a0, a1, a2⟩, ⟨b0, b1, b2⟩, ⟨f0, f1, f2⟩, ⟨g0, g1, g2⟩, ⟨z0, z1, z2, z3, z4, z5⟩, hz⟩ := boxes3_facts B)
        | (go_at_call 68; refine (unhide HO _).mono ?_; rintro e w1 ⟨rfl, hb1⟩; replace B := below_step B hb1; clear hb1; obtain ⟨⟨a0, a1, a2⟩, ⟨b0, b1, b2⟩, ⟨f0, f1, f2⟩, ⟨g0, g1, g2⟩, ⟨z0, z1, z2, z3, z4, z5⟩, hz⟩ := boxes3_facts B))
      refine bodyPost_ret (v := Val.null.v) (by simp [results, Try.results53, go_sem, Val.v, Val.null, *]) rfl ⟨rfl, ?_⟩
      exact ((((boxes3_below B).setCell (by simp <;> omega) _).setCell (by simp <;> omega) _).setCell (by simp <;> omega) _)
    · simp only [Bool.or_true, if_true]
      go_enter Try.func53, Try.ntmps53
      go_wp2_with (first
        | (go_at_call_of 67 (Value.agg #[Value.int IntKind.i64 a.k, Value.int IntKind.i64 a.n, Value.string a.s]); refine (unhide HA _).mono ?_; rintro e w1 ⟨rfl, hb1⟩; replace B := below_step B hb1; clear hb1; obtain ⟨⟨a0, a1, a2⟩, ⟨b0, b1, b2⟩, ⟨f0, f1, f2⟩, ⟨g0, g1, g2⟩, ⟨z0, z1, z2, z3, z4, z5⟩, hz⟩ := boxes3_facts B)
        | (go_at_call_of 67 (Value.agg #[Value.int IntKind.i64 b.k, Value.int IntKind.i64 b.n, Value.string b.s]); refine (unhide HB _).mono ?_; rintro e w1 ⟨rfl, hb1⟩; replace B := below_step B hb1; clear hb1; obtain ⟨⟨a0, a1, a2⟩, ⟨b0, b1, b2⟩, ⟨f0, f1, f2⟩, ⟨g0, g1, g2⟩, ⟨z0, z1, z2, z3, z4, z5⟩, hz⟩ := boxes3_facts B)
        | (go_at_call 68; refine (unhide HO _).mono ?_; rintro e w1 ⟨rfl, hb1⟩; replace B := below_step B hb1; clear hb1; obtain ⟨⟨a0, a1, a2⟩, ⟨b0, b1, b2⟩, ⟨f0, f1, f2⟩, ⟨g0, g1, g2⟩, ⟨z0, z1, z2, z3, z4, z5⟩, hz⟩ := boxes3_facts B))
      refine bodyPost_ret (v := Val.null.v) (by simp [results, Try.results53, go_sem, Val.v, Val.null, *]) rfl ⟨rfl, ?_⟩
      exact ((((boxes3_below B).setCell (by simp <;> omega) _).setCell (by simp <;> omega) _).setCell (by simp <;> omega) _)
  · simp only [Bool.true_or, if_true]
    go_enter Try.func53, Try.ntmps53
    go_wp2_with (first
        | (go_at_call_of 67 (Value.agg #[Value.int IntKind.i64 a.k, Value.int IntKind.i64 a.n, Value.string a.s]); refine (unhide HA _).mono ?_; rintro e w1 ⟨rfl, hb1⟩; replace B := below_step B hb1; clear hb1; obtain ⟨⟨a0, a1, a2⟩, ⟨b0, b1, b2⟩, ⟨f0, f1, f2⟩, ⟨g0, g1, g2⟩, ⟨z0, z1, z2, z3, z4, z5⟩, hz⟩ := boxes3_facts B)
        | (go_at_call_of 67 (Value.agg #[Value.int IntKind.i64 b.k, Value.int IntKind.i64 b.n, Value.string b.s]); refine (unhide HB _).mono ?_; rintro e w1 ⟨rfl, hb1⟩; replace B := below_step B hb1; clear hb1; obtain ⟨⟨a0, a1, a2⟩, ⟨b0, b1, b2⟩, ⟨f0, f1, f2⟩, ⟨g0, g1, g2⟩, ⟨z0, z1, z2, z3, z4, z5⟩, hz⟩ := boxes3_facts B)
        | (go_at_call 68; refine (unhide HO _).mono ?_; rintro e w1 ⟨rfl, hb1⟩; replace B := below_step B hb1; clear hb1; obtain ⟨⟨a0, a1, a2⟩, ⟨b0, b1, b2⟩, ⟨f0, f1, f2⟩, ⟨g0, g1, g2⟩, ⟨z0, z1, z2, z3, z4, z5⟩, hz⟩ := boxes3_facts B))
    refine bodyPost_ret (v := Val.null.v) (by simp [results, Try.results53, go_sem, Val.v, Val.null, *]) rfl ⟨rfl, ?_⟩
    exact ((((boxes3_below B).setCell (by simp <;> omega) _).setCell (by simp <;> omega) _).setCell (by simp <;> omega) _)

end Go.Proofs.Ytihkflcdphebmab
