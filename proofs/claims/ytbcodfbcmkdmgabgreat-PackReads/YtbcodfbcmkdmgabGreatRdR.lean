import Derived.Test.YtbcodfbcmkdmgabGreatRdQ
set_option linter.unusedSimpArgs false
set_option linter.unusedVariables false
namespace Go.Proofs.YtbcodfbcmkdmgabGreat
open Go.RowKit Go.Sort

def truthV (b : Bool) : Val := .num (if b then 1 else 0)
set_option maxHeartbeats 400000 in
theorem truth_any (b : Bool) (w : World) :
    Calls Tryz.prog 77 #[.bool b] w fun e w' => e = .returned (truthV b).v ∧ Below w.heap.size w w' := by
  cases b <;>
  · go_enter Tryz.func77, Tryz.ntmps77
    go_wp2_with (go_at_call 103; refine (number_any _ _).mono ?_; rintro e w1 ⟨rfl, hb1⟩; obtain ⟨hc1, hf1⟩ := bcell hb1; rw [Val.open_])
    refine bodyPost_ret (v := (truthV _).v) (by simp [results, Tryz.results77, go_sem, truthV, Val.v, Val.num, hc1, hf1]) rfl ⟨rfl, ?_⟩
    exact ((((((Below.refl _ _).alloc (Nat.le_refl _) _).trans (hb1.mono (by simp))).setCell (by simp) _).setCell (by simp) _).setCell (by simp) _)

def ZeroAt (w : World) (b : Nat) : Prop := w.cell? ⟨b, 0, none⟩ = some (.int .i64 0) ∧ w.cell? ⟨b, 1, none⟩ = some (.int .i64 0) ∧ w.cell? ⟨b, 2, none⟩ = some (.string ⟨#[]⟩) ∧ w.frozen? ⟨b, 0, none⟩ = false ∧ w.frozen? ⟨b, 1, none⟩ = false ∧ w.frozen? ⟨b, 2, none⟩ = false
theorem ZeroAt.later {w w1 : World} {b : Nat} (h : ZeroAt w b) (hb : Below w.heap.size w w1) : ZeroAt w1 b := by
  obtain ⟨h0, h1, h2, f0, f1, f2⟩ := h
  obtain ⟨hc, hf⟩ := bcell hb
  have hl : b < w.heap.size := World.block_lt_of_cell? w _ h0
  unfold ZeroAt
  rw [hc _ _ hl, hc _ _ hl, hc _ _ hl, hf _ _ hl, hf _ _ hl, hf _ _ hl]
  exact ⟨h0, h1, h2, f0, f1, f2⟩
abbrev Zero23 : Obj := .cells #[.int .i64 0, .int .i64 0, .string ⟨#[]⟩] 37
def boxes3 (w : World) (a b : Val) : World := (boxes w a b).alloc Zero23
theorem boxes3_size (w : World) (a b : Val) : (boxes3 w a b).heap.size = w.heap.size + 1 + 1 + 1 := by simp [boxes3, boxes_size]
theorem boxes3_drew (w : World) (a b : Val) : Below (boxes3 w a b).heap.size (boxes3 w a b) (boxes3 w a b).drew := (Below.refl _ _).drew
theorem boxes3_facts {w w' : World} {a b : Val} (h : Below (boxes3 w a b).heap.size (boxes3 w a b) w') :
    BoxAt w' w.heap.size a ∧ BoxAt w' (w.heap.size + 1) b ∧ FreeAt w' w.heap.size ∧ FreeAt w' (w.heap.size + 1) ∧ ZeroAt w' (w.heap.size + 1 + 1) ∧ w.heap.size + 1 + 1 < w'.heap.size := by
  have hs := h.size
  rw [boxes3_size] at hs
  obtain ⟨hc, hf⟩ := bcell h
  refine ⟨⟨?_, ?_, ?_⟩, ⟨?_, ?_, ?_⟩, ⟨?_, ?_, ?_⟩, ⟨?_, ?_, ?_⟩, ⟨?_, ?_, ?_, ?_, ?_, ?_⟩, by omega⟩
  all_goals first | (rw [hc _ _ (by rw [boxes3_size]; omega)]; simp [boxes3, boxes, go_sem]; done) | (rw [hf _ _ (by rw [boxes3_size]; omega)]; simp [boxes3, boxes, go_sem]; done)
theorem boxes3_below {w w' : World} {a b : Val} (h : Below (boxes3 w a b).heap.size (boxes3 w a b) w') : Below w.heap.size w w' :=
  ((((Below.refl _ _).alloc (Nat.le_refl _) _).alloc (by simp) _).alloc (by simp; omega) _).trans (h.mono (by rw [boxes3_size]; omega))
def tnullB (x : Val) : Bool := (cleanV x).k == 0
theorem tnullB_eq (x : Val) : tnullB x = (x.k != 1 && x.k != 2) := by
  unfold tnullB cleanV
  rcases Bool.eq_false_or_eq_true (x.k == 1) with h1 | h1 <;> rcases Bool.eq_false_or_eq_true (x.k == 2) with h2 | h2 <;> simp [h1, h2, bne, Val.num, Val.str, Val.null]

theorem tisNull_any (x : Val) (w : World) :
    Calls Tryz.prog 76 #[x.v] w fun e w' => e = .returned (.bool (tnullB x)) ∧ Below w.heap.size w w' := by
  rw [x.open_, tnullB_eq]
  rcases Bool.eq_false_or_eq_true (x.k != 1) with hk | hk
  · go_enter Tryz.func76, Tryz.ntmps76
    go_wp2
    go_ret
    exact ⟨by simp [hk], (Below.refl _ _).alloc (Nat.le_refl _) _⟩
  · go_enter Tryz.func76, Tryz.ntmps76
    go_wp2
    go_ret
    exact ⟨by simp [hk], (Below.refl _ _).alloc (Nat.le_refl _) _⟩

def testB (op o : Int) : Option Bool :=
  if op == 12 then some (o == 0) else if op == 13 then some (o != 0) else if op == 14 then some (decide (o < 0)) else if op == 15 then some (decide (o ≤ 0)) else if op == 16 then some (decide (0 < o)) else if op == 17 then some (decide (0 ≤ o)) else none
def testR (op o : Int) : Val := match testB op o with | some t => truthV t | none => .null
def testV (op : Int) (a b : Val) : Val := if tnullB a || tnullB b then .null else testR op (ordV a b)

theorem testR_some {op o : Int} {t : Bool} (h : testB op o = some t) : testR op o = truthV t := by simp [testR, h]
theorem testR_none {op o : Int} (h : testB op o = none) : testR op o = .null := by simp [testR, h]

set_option maxHeartbeats 4000000 in
set_option maxRecDepth 100000 in
theorem test_any (op : Int) (a b : Val) (w : World) :
    Calls Tryz.prog 46 #[.int .i64 op, a.v, b.v] w fun e w' => e = .returned (testV op a b).v ∧ Below w.heap.size w w' := by
  rw [a.open_, b.open_]
  unfold testV
  have HA := hide (tisNull_any a)
  have HB := hide (tisNull_any b)
  have HO := hide (order_any a b)
  have B : Below (boxes3 w a b).heap.size (boxes3 w a b) (boxes3 w a b) := Below.refl _ _
  generalize ordV a b = o at *
  generalize tnullB a = na at *
  generalize tnullB b = nb at *
  cases na
  · cases nb
    · simp only [Bool.or_self, Bool.false_eq_true, if_false]
      rcases Bool.eq_false_or_eq_true (op == 12) with h12 | h12
      · rw [testR_some (t := (o == 0)) (by simp [testB, *])]
        go_enter Tryz.func46, Tryz.ntmps46
        go_wp2_with (first
        | (go_at_call_of 76 (Value.agg #[Value.int IntKind.i64 a.k, Value.int IntKind.i64 a.n, Value.string a.s]); refine (unhide HA _).mono ?_; rintro e w1 ⟨rfl, hb1⟩; replace B := below_step B hb1; clear hb1; obtain ⟨⟨a0, a1, a2⟩, ⟨b0, b1, b2⟩, ⟨f0, f1, f2⟩, ⟨g0, g1, g2⟩, ⟨z0, z1, z2, z3, z4, z5⟩, hz⟩ := boxes3_facts B)
        | (go_at_call_of 76 (Value.agg #[Value.int IntKind.i64 b.k, Value.int IntKind.i64 b.n, Value.string b.s]); refine (unhide HB _).mono ?_; rintro e w1 ⟨rfl, hb1⟩; replace B := below_step B hb1; clear hb1; obtain ⟨⟨a0, a1, a2⟩, ⟨b0, b1, b2⟩, ⟨f0, f1, f2⟩, ⟨g0, g1, g2⟩, ⟨z0, z1, z2, z3, z4, z5⟩, hz⟩ := boxes3_facts B)
        | (go_at_call 50; refine (unhide HO _).mono ?_; rintro e w1 ⟨rfl, hb1⟩; replace B := below_step B hb1; clear hb1; obtain ⟨⟨a0, a1, a2⟩, ⟨b0, b1, b2⟩, ⟨f0, f1, f2⟩, ⟨g0, g1, g2⟩, ⟨z0, z1, z2, z3, z4, z5⟩, hz⟩ := boxes3_facts B)
        | (go_at_call 77; refine (truth_any _ _).mono ?_; rintro e w1 ⟨rfl, hb1⟩; replace B := below_step B hb1; clear hb1; rw [Val.open_]; obtain ⟨⟨a0, a1, a2⟩, ⟨b0, b1, b2⟩, ⟨f0, f1, f2⟩, ⟨g0, g1, g2⟩, ⟨z0, z1, z2, z3, z4, z5⟩, hz⟩ := boxes3_facts B))
        refine bodyPost_ret (v := (truthV (o == 0)).v) (by simp [results, Tryz.results46, go_sem, Val.v, *]) rfl ⟨rfl, ?_⟩
        exact ((((boxes3_below B).setCell (by simp <;> omega) _).setCell (by simp <;> omega) _).setCell (by simp <;> omega) _)
      rcases Bool.eq_false_or_eq_true (op == 13) with h13 | h13
      · rw [testR_some (t := (o != 0)) (by simp [testB, *])]
        go_enter Tryz.func46, Tryz.ntmps46
        go_wp2_with (first
        | (go_at_call_of 76 (Value.agg #[Value.int IntKind.i64 a.k, Value.int IntKind.i64 a.n, Value.string a.s]); refine (unhide HA _).mono ?_; rintro e w1 ⟨rfl, hb1⟩; replace B := below_step B hb1; clear hb1; obtain ⟨⟨a0, a1, a2⟩, ⟨b0, b1, b2⟩, ⟨f0, f1, f2⟩, ⟨g0, g1, g2⟩, ⟨z0, z1, z2, z3, z4, z5⟩, hz⟩ := boxes3_facts B)
        | (go_at_call_of 76 (Value.agg #[Value.int IntKind.i64 b.k, Value.int IntKind.i64 b.n, Value.string b.s]); refine (unhide HB _).mono ?_; rintro e w1 ⟨rfl, hb1⟩; replace B := below_step B hb1; clear hb1; obtain ⟨⟨a0, a1, a2⟩, ⟨b0, b1, b2⟩, ⟨f0, f1, f2⟩, ⟨g0, g1, g2⟩, ⟨z0, z1, z2, z3, z4, z5⟩, hz⟩ := boxes3_facts B)
        | (go_at_call 50; refine (unhide HO _).mono ?_; rintro e w1 ⟨rfl, hb1⟩; replace B := below_step B hb1; clear hb1; obtain ⟨⟨a0, a1, a2⟩, ⟨b0, b1, b2⟩, ⟨f0, f1, f2⟩, ⟨g0, g1, g2⟩, ⟨z0, z1, z2, z3, z4, z5⟩, hz⟩ := boxes3_facts B)
        | (go_at_call 77; refine (truth_any _ _).mono ?_; rintro e w1 ⟨rfl, hb1⟩; replace B := below_step B hb1; clear hb1; rw [Val.open_]; obtain ⟨⟨a0, a1, a2⟩, ⟨b0, b1, b2⟩, ⟨f0, f1, f2⟩, ⟨g0, g1, g2⟩, ⟨z0, z1, z2, z3, z4, z5⟩, hz⟩ := boxes3_facts B))
        refine bodyPost_ret (v := (truthV (o != 0)).v) (by simp [results, Tryz.results46, go_sem, Val.v, *]) rfl ⟨rfl, ?_⟩
        exact ((((boxes3_below B).setCell (by simp <;> omega) _).setCell (by simp <;> omega) _).setCell (by simp <;> omega) _)
      rcases Bool.eq_false_or_eq_true (op == 14) with h14 | h14
      · rw [testR_some (t := (decide (o < 0))) (by simp [testB, *])]
        go_enter Tryz.func46, Tryz.ntmps46
        go_wp2_with (first
        | (go_at_call_of 76 (Value.agg #[Value.int IntKind.i64 a.k, Value.int IntKind.i64 a.n, Value.string a.s]); refine (unhide HA _).mono ?_; rintro e w1 ⟨rfl, hb1⟩; replace B := below_step B hb1; clear hb1; obtain ⟨⟨a0, a1, a2⟩, ⟨b0, b1, b2⟩, ⟨f0, f1, f2⟩, ⟨g0, g1, g2⟩, ⟨z0, z1, z2, z3, z4, z5⟩, hz⟩ := boxes3_facts B)
        | (go_at_call_of 76 (Value.agg #[Value.int IntKind.i64 b.k, Value.int IntKind.i64 b.n, Value.string b.s]); refine (unhide HB _).mono ?_; rintro e w1 ⟨rfl, hb1⟩; replace B := below_step B hb1; clear hb1; obtain ⟨⟨a0, a1, a2⟩, ⟨b0, b1, b2⟩, ⟨f0, f1, f2⟩, ⟨g0, g1, g2⟩, ⟨z0, z1, z2, z3, z4, z5⟩, hz⟩ := boxes3_facts B)
        | (go_at_call 50; refine (unhide HO _).mono ?_; rintro e w1 ⟨rfl, hb1⟩; replace B := below_step B hb1; clear hb1; obtain ⟨⟨a0, a1, a2⟩, ⟨b0, b1, b2⟩, ⟨f0, f1, f2⟩, ⟨g0, g1, g2⟩, ⟨z0, z1, z2, z3, z4, z5⟩, hz⟩ := boxes3_facts B)
        | (go_at_call 77; refine (truth_any _ _).mono ?_; rintro e w1 ⟨rfl, hb1⟩; replace B := below_step B hb1; clear hb1; rw [Val.open_]; obtain ⟨⟨a0, a1, a2⟩, ⟨b0, b1, b2⟩, ⟨f0, f1, f2⟩, ⟨g0, g1, g2⟩, ⟨z0, z1, z2, z3, z4, z5⟩, hz⟩ := boxes3_facts B))
        refine bodyPost_ret (v := (truthV (decide (o < 0))).v) (by simp [results, Tryz.results46, go_sem, Val.v, *]) rfl ⟨rfl, ?_⟩
        exact ((((boxes3_below B).setCell (by simp <;> omega) _).setCell (by simp <;> omega) _).setCell (by simp <;> omega) _)
      rcases Bool.eq_false_or_eq_true (op == 15) with h15 | h15
      · rw [testR_some (t := (decide (o ≤ 0))) (by simp [testB, *])]
        go_enter Tryz.func46, Tryz.ntmps46
        go_wp2_with (first
        | (go_at_call_of 76 (Value.agg #[Value.int IntKind.i64 a.k, Value.int IntKind.i64 a.n, Value.string a.s]); refine (unhide HA _).mono ?_; rintro e w1 ⟨rfl, hb1⟩; replace B := below_step B hb1; clear hb1; obtain ⟨⟨a0, a1, a2⟩, ⟨b0, b1, b2⟩, ⟨f0, f1, f2⟩, ⟨g0, g1, g2⟩, ⟨z0, z1, z2, z3, z4, z5⟩, hz⟩ := boxes3_facts B)
        | (go_at_call_of 76 (Value.agg #[Value.int IntKind.i64 b.k, Value.int IntKind.i64 b.n, Value.string b.s]); refine (unhide HB _).mono ?_; rintro e w1 ⟨rfl, hb1⟩; replace B := below_step B hb1; clear hb1; obtain ⟨⟨a0, a1, a2⟩, ⟨b0, b1, b2⟩, ⟨f0, f1, f2⟩, ⟨g0, g1, g2⟩, ⟨z0, z1, z2, z3, z4, z5⟩, hz⟩ := boxes3_facts B)
        | (go_at_call 50; refine (unhide HO _).mono ?_; rintro e w1 ⟨rfl, hb1⟩; replace B := below_step B hb1; clear hb1; obtain ⟨⟨a0, a1, a2⟩, ⟨b0, b1, b2⟩, ⟨f0, f1, f2⟩, ⟨g0, g1, g2⟩, ⟨z0, z1, z2, z3, z4, z5⟩, hz⟩ := boxes3_facts B)
        | (go_at_call 77; refine (truth_any _ _).mono ?_; rintro e w1 ⟨rfl, hb1⟩; replace B := below_step B hb1; clear hb1; rw [Val.open_]; obtain ⟨⟨a0, a1, a2⟩, ⟨b0, b1, b2⟩, ⟨f0, f1, f2⟩, ⟨g0, g1, g2⟩, ⟨z0, z1, z2, z3, z4, z5⟩, hz⟩ := boxes3_facts B))
        refine bodyPost_ret (v := (truthV (decide (o ≤ 0))).v) (by simp [results, Tryz.results46, go_sem, Val.v, *]) rfl ⟨rfl, ?_⟩
        exact ((((boxes3_below B).setCell (by simp <;> omega) _).setCell (by simp <;> omega) _).setCell (by simp <;> omega) _)
      rcases Bool.eq_false_or_eq_true (op == 16) with h16 | h16
      · rw [testR_some (t := (decide (0 < o))) (by simp [testB, *])]
        go_enter Tryz.func46, Tryz.ntmps46
        go_wp2_with (first
        | (go_at_call_of 76 (Value.agg #[Value.int IntKind.i64 a.k, Value.int IntKind.i64 a.n, Value.string a.s]); refine (unhide HA _).mono ?_; rintro e w1 ⟨rfl, hb1⟩; replace B := below_step B hb1; clear hb1; obtain ⟨⟨a0, a1, a2⟩, ⟨b0, b1, b2⟩, ⟨f0, f1, f2⟩, ⟨g0, g1, g2⟩, ⟨z0, z1, z2, z3, z4, z5⟩, hz⟩ := boxes3_facts B)
        | (go_at_call_of 76 (Value.agg #[Value.int IntKind.i64 b.k, Value.int IntKind.i64 b.n, Value.string b.s]); refine (unhide HB _).mono ?_; rintro e w1 ⟨rfl, hb1⟩; replace B := below_step B hb1; clear hb1; obtain ⟨⟨a0, a1, a2⟩, ⟨b0, b1, b2⟩, ⟨f0, f1, f2⟩, ⟨g0, g1, g2⟩, ⟨z0, z1, z2, z3, z4, z5⟩, hz⟩ := boxes3_facts B)
        | (go_at_call 50; refine (unhide HO _).mono ?_; rintro e w1 ⟨rfl, hb1⟩; replace B := below_step B hb1; clear hb1; obtain ⟨⟨a0, a1, a2⟩, ⟨b0, b1, b2⟩, ⟨f0, f1, f2⟩, ⟨g0, g1, g2⟩, ⟨z0, z1, z2, z3, z4, z5⟩, hz⟩ := boxes3_facts B)
        | (go_at_call 77; refine (truth_any _ _).mono ?_; rintro e w1 ⟨rfl, hb1⟩; replace B := below_step B hb1; clear hb1; rw [Val.open_]; obtain ⟨⟨a0, a1, a2⟩, ⟨b0, b1, b2⟩, ⟨f0, f1, f2⟩, ⟨g0, g1, g2⟩, ⟨z0, z1, z2, z3, z4, z5⟩, hz⟩ := boxes3_facts B))
        refine bodyPost_ret (v := (truthV (decide (0 < o))).v) (by simp [results, Tryz.results46, go_sem, Val.v, *]) rfl ⟨rfl, ?_⟩
        exact ((((boxes3_below B).setCell (by simp <;> omega) _).setCell (by simp <;> omega) _).setCell (by simp <;> omega) _)
      rcases Bool.eq_false_or_eq_true (op == 17) with h17 | h17
      · rw [testR_some (t := (decide (0 ≤ o))) (by simp [testB, *])]
        go_enter Tryz.func46, Tryz.ntmps46
        go_wp2_with (first
        | (go_at_call_of 76 (Value.agg #[Value.int IntKind.i64 a.k, Value.int IntKind.i64 a.n, Value.string a.s]); refine (unhide HA _).mono ?_; rintro e w1 ⟨rfl, hb1⟩; replace B := below_step B hb1; clear hb1; obtain ⟨⟨a0, a1, a2⟩, ⟨b0, b1, b2⟩, ⟨f0, f1, f2⟩, ⟨g0, g1, g2⟩, ⟨z0, z1, z2, z3, z4, z5⟩, hz⟩ := boxes3_facts B)
        | (go_at_call_of 76 (Value.agg #[Value.int IntKind.i64 b.k, Value.int IntKind.i64 b.n, Value.string b.s]); refine (unhide HB _).mono ?_; rintro e w1 ⟨rfl, hb1⟩; replace B := below_step B hb1; clear hb1; obtain ⟨⟨a0, a1, a2⟩, ⟨b0, b1, b2⟩, ⟨f0, f1, f2⟩, ⟨g0, g1, g2⟩, ⟨z0, z1, z2, z3, z4, z5⟩, hz⟩ := boxes3_facts B)
        | (go_at_call 50; refine (unhide HO _).mono ?_; rintro e w1 ⟨rfl, hb1⟩; replace B := below_step B hb1; clear hb1; obtain ⟨⟨a0, a1, a2⟩, ⟨b0, b1, b2⟩, ⟨f0, f1, f2⟩, ⟨g0, g1, g2⟩, ⟨z0, z1, z2, z3, z4, z5⟩, hz⟩ := boxes3_facts B)
        | (go_at_call 77; refine (truth_any _ _).mono ?_; rintro e w1 ⟨rfl, hb1⟩; replace B := below_step B hb1; clear hb1; rw [Val.open_]; obtain ⟨⟨a0, a1, a2⟩, ⟨b0, b1, b2⟩, ⟨f0, f1, f2⟩, ⟨g0, g1, g2⟩, ⟨z0, z1, z2, z3, z4, z5⟩, hz⟩ := boxes3_facts B))
        refine bodyPost_ret (v := (truthV (decide (0 ≤ o))).v) (by simp [results, Tryz.results46, go_sem, Val.v, *]) rfl ⟨rfl, ?_⟩
        exact ((((boxes3_below B).setCell (by simp <;> omega) _).setCell (by simp <;> omega) _).setCell (by simp <;> omega) _)
      rw [testR_none (by simp [testB, *])]
      go_enter Tryz.func46, Tryz.ntmps46
      go_wp2_with (first
        | (go_at_call_of 76 (Value.agg #[Value.int IntKind.i64 a.k, Value.int IntKind.i64 a.n, Value.string a.s]); refine (unhide HA _).mono ?_; rintro e w1 ⟨rfl, hb1⟩; replace B := below_step B hb1; clear hb1; obtain ⟨⟨a0, a1, a2⟩, ⟨b0, b1, b2⟩, ⟨f0, f1, f2⟩, ⟨g0, g1, g2⟩, ⟨z0, z1, z2, z3, z4, z5⟩, hz⟩ := boxes3_facts B)
        | (go_at_call_of 76 (Value.agg #[Value.int IntKind.i64 b.k, Value.int IntKind.i64 b.n, Value.string b.s]); refine (unhide HB _).mono ?_; rintro e w1 ⟨rfl, hb1⟩; replace B := below_step B hb1; clear hb1; obtain ⟨⟨a0, a1, a2⟩, ⟨b0, b1, b2⟩, ⟨f0, f1, f2⟩, ⟨g0, g1, g2⟩, ⟨z0, z1, z2, z3, z4, z5⟩, hz⟩ := boxes3_facts B)
        | (go_at_call 50; refine (unhide HO _).mono ?_; rintro e w1 ⟨rfl, hb1⟩; replace B := below_step B hb1; clear hb1; obtain ⟨⟨a0, a1, a2⟩, ⟨b0, b1, b2⟩, ⟨f0, f1, f2⟩, ⟨g0, g1, g2⟩, ⟨z0, z1, z2, z3, z4, z5⟩, hz⟩ := boxes3_facts B))
      refine bodyPost_ret (v := Val.null.v) (by simp [results, Tryz.results46, go_sem, Val.v, Val.null, *]) rfl ⟨rfl, ?_⟩
      exact ((((boxes3_below B).setCell (by simp <;> omega) _).setCell (by simp <;> omega) _).setCell (by simp <;> omega) _)
    · simp only [Bool.or_true, if_true]
      go_enter Tryz.func46, Tryz.ntmps46
      go_wp2_with (first
        | (go_at_call_of 76 (Value.agg #[Value.int IntKind.i64 a.k, Value.int IntKind.i64 a.n, Value.string a.s]); refine (unhide HA _).mono ?_; rintro e w1 ⟨rfl, hb1⟩; replace B := below_step B hb1; clear hb1; obtain ⟨⟨a0, a1, a2⟩, ⟨b0, b1, b2⟩, ⟨f0, f1, f2⟩, ⟨g0, g1, g2⟩, ⟨z0, z1, z2, z3, z4, z5⟩, hz⟩ := boxes3_facts B)
        | (go_at_call_of 76 (Value.agg #[Value.int IntKind.i64 b.k, Value.int IntKind.i64 b.n, Value.string b.s]); refine (unhide HB _).mono ?_; rintro e w1 ⟨rfl, hb1⟩; replace B := below_step B hb1; clear hb1; obtain ⟨⟨a0, a1, a2⟩, ⟨b0, b1, b2⟩, ⟨f0, f1, f2⟩, ⟨g0, g1, g2⟩, ⟨z0, z1, z2, z3, z4, z5⟩, hz⟩ := boxes3_facts B)
        | (go_at_call 50; refine (unhide HO _).mono ?_; rintro e w1 ⟨rfl, hb1⟩; replace B := below_step B hb1; clear hb1; obtain ⟨⟨a0, a1, a2⟩, ⟨b0, b1, b2⟩, ⟨f0, f1, f2⟩, ⟨g0, g1, g2⟩, ⟨z0, z1, z2, z3, z4, z5⟩, hz⟩ := boxes3_facts B))
      refine bodyPost_ret (v := Val.null.v) (by simp [results, Tryz.results46, go_sem, Val.v, Val.null, *]) rfl ⟨rfl, ?_⟩
      exact ((((boxes3_below B).setCell (by simp <;> omega) _).setCell (by simp <;> omega) _).setCell (by simp <;> omega) _)
  · simp only [Bool.true_or, if_true]
    go_enter Tryz.func46, Tryz.ntmps46
    go_wp2_with (first
        | (go_at_call_of 76 (Value.agg #[Value.int IntKind.i64 a.k, Value.int IntKind.i64 a.n, Value.string a.s]); refine (unhide HA _).mono ?_; rintro e w1 ⟨rfl, hb1⟩; replace B := below_step B hb1; clear hb1; obtain ⟨⟨a0, a1, a2⟩, ⟨b0, b1, b2⟩, ⟨f0, f1, f2⟩, ⟨g0, g1, g2⟩, ⟨z0, z1, z2, z3, z4, z5⟩, hz⟩ := boxes3_facts B)
        | (go_at_call_of 76 (Value.agg #[Value.int IntKind.i64 b.k, Value.int IntKind.i64 b.n, Value.string b.s]); refine (unhide HB _).mono ?_; rintro e w1 ⟨rfl, hb1⟩; replace B := below_step B hb1; clear hb1; obtain ⟨⟨a0, a1, a2⟩, ⟨b0, b1, b2⟩, ⟨f0, f1, f2⟩, ⟨g0, g1, g2⟩, ⟨z0, z1, z2, z3, z4, z5⟩, hz⟩ := boxes3_facts B)
        | (go_at_call 50; refine (unhide HO _).mono ?_; rintro e w1 ⟨rfl, hb1⟩; replace B := below_step B hb1; clear hb1; obtain ⟨⟨a0, a1, a2⟩, ⟨b0, b1, b2⟩, ⟨f0, f1, f2⟩, ⟨g0, g1, g2⟩, ⟨z0, z1, z2, z3, z4, z5⟩, hz⟩ := boxes3_facts B))
    refine bodyPost_ret (v := Val.null.v) (by simp [results, Tryz.results46, go_sem, Val.v, Val.null, *]) rfl ⟨rfl, ?_⟩
    exact ((((boxes3_below B).setCell (by simp <;> omega) _).setCell (by simp <;> omega) _).setCell (by simp <;> omega) _)

end Go.Proofs.YtbcodfbcmkdmgabGreat
set_option linter.unusedSimpArgs false
set_option linter.unusedVariables false
namespace Go.Proofs.YtbcodfbcmkdmgabGreat
open Go.RowKit Go.Sort

/-- A text that is a packed column: what opened answers, wherever. -/
def Opens (s : ByteArray) (sch : Nat) (kind : Int) (xs : List Val) : Prop := ∀ W, Calls Tryz.prog 37 #[.string s] W fun e w' => ∃ a c, e = .returned (.tuple #[.agg #[.int .i64 (sch : Int), .int .i64 kind, .slice a xs.length c], .int .i64 0]) ∧ RowAt w' a xs ∧ Below W.heap.size W w'
theorem opens_of {s : ByteArray} {sch : Nat} {kind : Int} {xs : List Val} (hl : s.size ≤ 140737488355328) (h : columnD s.data.toList = some (sch, kind, xs)) : Opens s sch kind xs := by
  intro W
  have := opened_yes (w := W) (l := s.data.toList) (by rw [Array.length_toList]; exact hl) h
  rw [bs_back] at this
  refine this.mono ?_
  rintro e w' ⟨v, rfl, ho, hb⟩
  obtain ⟨a, c, rfl, _, _, hr⟩ := ownV_slice ho
  exact ⟨a, c, rfl, hr, hb⟩
set_option maxHeartbeats 400000 in
theorem scheme_any {s : ByteArray} {sch : Nat} {kind : Int} {xs : List Val} (h : Opens s sch kind xs) (w : World) : Calls Tryz.prog 14 #[.string s] w fun e w' => e = .returned (.int .i64 (sch : Int)) ∧ Below w.heap.size w w' := by
  have H := hide h
  clear h
  go_enter Tryz.func14, Tryz.ntmps14
  go_wp2_with (go_at_call 37; refine (unhide H _).mono ?_; rintro e w1 ⟨a, c, rfl, hr1, hb1⟩)
  go_ret
  exact ⟨rfl, below_alloc hb1 _⟩
set_option maxHeartbeats 400000 in
theorem plen_any {s : ByteArray} {sch : Nat} {kind : Int} {xs : List Val} (h : Opens s sch kind xs) (w : World) : Calls Tryz.prog 13 #[.string s] w fun e w' => e = .returned (.int .i64 (xs.length : Nat)) ∧ Below w.heap.size w w' := by
  have H := hide h
  clear h
  go_enter Tryz.func13, Tryz.ntmps13
  go_wp2_with (go_at_call 37; refine (unhide H _).mono ?_; rintro e w1 ⟨a, c, rfl, hr1, hb1⟩)
  go_ret
  exact ⟨rfl, below_alloc hb1 _⟩
set_option maxHeartbeats 400000 in
set_option maxRecDepth 100000 in
theorem pat_any {s : ByteArray} {sch : Nat} {kind : Int} {xs : List Val} (h : Opens s sch kind xs) (hl : xs.length ≤ 4096) {k : Nat} {x : Val} (hx : xs[k]? = some x) (w : World) : Calls Tryz.prog 16 #[.string s, .int .i64 (k : Int)] w fun e w' => e = .returned (.tuple #[x.v, .int .i64 0]) ∧ Below w.heap.size w w' := by
  have H := hide h
  have hk := (List.getElem?_eq_some_iff.1 hx).1
  have hki : (k : Int) < (xs.length : Int) := by omega
  have HX := hide hx
  have HZ := hide (fun w1 (hb : Below (w.alloc (.cells #[.int .i64 0, .int .i64 0, .string ⟨#[]⟩] 37)).heap.size (w.alloc (.cells #[.int .i64 0, .int .i64 0, .string ⟨#[]⟩] 37)) w1) o => box3_facts (World.rowIs.alloc (rowIs_later (box3_alloc w Val.null) hb) o))
  clear h hx
  go_enter Tryz.func16, Tryz.ntmps16
  go_wp2_with (go_at_call 37; refine (unhide H _).mono ?_; rintro e w1 ⟨a, c, rfl, hr1, hb1⟩; obtain ⟨vb, vo, rfl, _, _, _⟩ := hr1.lo (unhide HX); obtain ⟨_, _, e, c0, c1, c2⟩ := (hr1.later (below_alloc (Below.refl _ _) (.cells #[.int .i64 (sch : Int), .int .i64 kind, .slice (some ⟨vb, vo, none⟩) xs.length c] 75))).lo (unhide HX); injection e with e; injection e with e1 e2; subst e1; subst e2; obtain ⟨p0, p1, p2, q0, q1, q2⟩ := unhide HZ w1 hb1 (.cells #[.int .i64 (sch : Int), .int .i64 kind, .slice (some ⟨vb, vo, none⟩) xs.length c] 75))
  refine bodyPost_ret (v := .tuple #[x.v, .int .i64 0]) ?_ rfl ⟨rfl, ?_⟩
  · simp [results, Tryz.results16, go_sem, Val.v, p0, p1, p2]
  · exact (((below_alloc (below_one hb1) _).setCell (p := ⟨w.heap.size, 0, none⟩) (Nat.le_refl _) _).setCell (p := ⟨w.heap.size, 1, none⟩) (Nat.le_refl _) _).setCell (p := ⟨w.heap.size, 2, none⟩) (Nat.le_refl _) _
set_option maxHeartbeats 400000 in
set_option maxRecDepth 100000 in
theorem pread_any {s : ByteArray} {sch : Nat} {kind : Int} {xs : List Val} (h : Opens s sch kind xs) (hl : xs.length ≤ 4096) {X : Vc} (hf : fromV kind xs = (X, 0)) (w : World) : Calls Tryz.prog 10 #[.string s] w fun e w' => ∃ p, e = .returned (.tuple #[vecV X p, .int .i64 0]) ∧ VecAt w' X p ∧ Fresh w.heap.size p ∧ Below w.heap.size w w' := by
  have H := hide h
  have HF : Hid (∀ W a c, RowAt W a xs → Calls Tryz.prog 38 #[.int .i64 kind, .slice a xs.length c] W fun e w' => ∃ p, e = .returned (.tuple #[vecV X p, .int .i64 0]) ∧ VecAt w' X p ∧ Fresh W.heap.size p ∧ Below W.heap.size W w') := fun W a c ha => by
    have := from_any a c kind xs W (by omega) ha
    rw [hf] at this
    exact this
  clear h hf
  go_enter Tryz.func10, Tryz.ntmps10
  go_wp2_with (first
    | (go_at_call 37; refine (unhide H _).mono ?_; rintro e w1 ⟨a, c, rfl, hr1, hb1⟩)
    | (go_at_call 38; refine (unhide HF _ _ _ (hr1.later (below_alloc (Below.refl _ _) _))).mono ?_; rintro e w2 ⟨p, rfl, hv2, hfr2, hb2⟩; rw [vecV_open]; obtain ⟨r0, r1, r2, r3, s0, s1, s2, s3⟩ := box_facts (rowIs_later (World.rowIs.alloc (rowIs_later (box4_alloc w (.int .i64 0) (.slice none 0 0) (.slice none 0 0) (.slice none 0 0)) hb1) _) hb2))
    | fail)
  have hB1 := below_one hb1
  have hB2 := below_step (below_alloc hB1 _) hb2
  have hz1 : w.heap.size + 1 ≤ w1.heap.size := by have := hb1.size; simpa using this
  have hfr3 : Fresh (w.heap.size + 1) p := hfr2.less (by simp; omega)
  have hfr4 : Fresh w.heap.size p := hfr3.less (by omega)
  refine bodyPost_ret (v := .tuple #[vecV X p, .int .i64 0]) ?_ rfl ⟨p, rfl, ?_, hfr4, ?_⟩
  · simp [results, Tryz.results10, go_sem, vecV, r0, r1, r2, r3]
  · exact ⟨(((hv2.1.setO hfr3.1 _ (by simp) _).setO hfr3.1 _ (by simp) _).setO hfr3.1 _ (by simp) _).setO hfr3.1 _ (by simp) _, (((hv2.2.1.setO hfr3.2.1 _ (by simp) _).setO hfr3.2.1 _ (by simp) _).setO hfr3.2.1 _ (by simp) _).setO hfr3.2.1 _ (by simp) _, (((hv2.2.2.setO hfr3.2.2 _ (by simp) _).setO hfr3.2.2 _ (by simp) _).setO hfr3.2.2 _ (by simp) _).setO hfr3.2.2 _ (by simp) _⟩
  · exact (((hB2.setCell (p := ⟨w.heap.size, 0, none⟩) (Nat.le_refl _) _).setCell (p := ⟨w.heap.size, 1, none⟩) (Nat.le_refl _) _).setCell (p := ⟨w.heap.size, 2, none⟩) (Nat.le_refl _) _).setCell (p := ⟨w.heap.size, 3, none⟩) (Nat.le_refl _) _
end Go.Proofs.YtbcodfbcmkdmgabGreat
set_option linter.unusedSimpArgs false
set_option linter.unusedVariables false
namespace Go.Proofs.YtbcodfbcmkdmgabGreat
open Go.RowKit Go.Sort

/-- The places below k at which f holds. -/
def fT (f : Nat → Bool) (k : Nat) : List Nat := (List.range k).filter f
theorem fT_next (f : Nat → Bool) (k : Nat) : fT f (k + 1) = fT f k ++ (if f k then [k] else []) := by
  unfold fT
  rw [List.range_succ, List.filter_append]
  cases h : f k <;> simp [h]
theorem fT_pre (f : Nat → Bool) {k n : Nat} (h : k ≤ n) : ∃ r, fT f n = fT f k ++ r := by
  obtain ⟨j, rfl⟩ : ∃ j, n = k + j := ⟨n - k, by omega⟩
  clear h
  induction j with
  | zero => exact ⟨[], by simp⟩
  | succ j ih =>
    obtain ⟨r, hr⟩ := ih
    exact ⟨r ++ (if f (k + j) then [k + j] else []), by rw [← Nat.add_assoc, fT_next, hr, List.append_assoc]⟩
theorem fT_at {f : Nat → Bool} {k n : Nat} (h : k < n) (hf : f k = true) : (fT f n)[(fT f k).length]? = some k := by
  obtain ⟨r, hr⟩ := fT_pre f (k := k + 1) h
  rw [hr, fT_next, if_pos hf, List.append_assoc]
  simp
theorem fT_len (f : Nat → Bool) (k : Nat) : (fT f k).length ≤ k := by
  unfold fT
  exact Nat.le_trans (List.length_filter_le _ _) (by simp)
/-- Does a value compare so? -/
def hitB (op : Int) (y x : Val) : Bool := trueB (testV op x y)
def hitF (op : Int) (y : Val) (xs : List Val) (k : Nat) : Bool := hitB op y (xs.getD k .null)
theorem hitF_at {op : Int} {y x : Val} {xs : List Val} {k : Nat} (h : xs[k]? = some x) : hitF op y xs k = hitB op y x := by
  unfold hitF
  rw [List.getD_eq_getElem?_getD, h]; rfl
/-- An own row of numbers. -/
def OwnN (w : World) (base : Nat) (v : Value) (ns : List Nat) : Prop := w.ownsRow base 3 1 v ns.length (ns.map fun n : Nat => Value.int .i64 (n : Int))
theorem test_o (op : Int) (x y : Val) (w : World) : Calls Tryz.prog 46 #[.int .i64 op, .agg #[.int .i64 x.k, .int .i64 x.n, .string x.s], .agg #[.int .i64 y.k, .int .i64 y.n, .string y.s]] w fun e w' => e = .returned (testV op x y).v ∧ Below w.heap.size w w' := test_any op x y w
theorem Tryz.info3' : (Tryz.prog.info? 3).map (fun i => (i.zero, i.size, i.bytes)) = some (some (.int .i64 0), 1, 8) := by kernel_rfl
theorem ownN_app {w : World} {base : Nat} {v : Value} {ys : List Nat} {m : Nat} (h : w.ownsRow base 3 1 v (ys.length + 1) ((ys.map fun n : Nat => Value.int .i64 (n : Int)) ++ [.int .i64 (m : Int)])) : OwnN w base v (ys ++ [m]) := by
  unfold OwnN
  rw [List.length_append, List.map_append]
  exact h
set_option maxHeartbeats 400000 in
set_option maxRecDepth 100000 in
theorem find_any {s : ByteArray} {sch : Nat} {kind : Int} {xs : List Val} (h : Opens s sch kind xs) (hl : xs.length ≤ 4096) (op : Int) (h1 : 12 ≤ op) (h2 : op ≤ 17) (y : Val) (w : World) :
    Calls Tryz.prog 18 #[.string s, .int .i64 op, y.v] w fun e w' => ∃ v, e = .returned (.tuple #[v, .int .i64 0]) ∧ OwnN w' w.heap.size v (fT (hitF op y xs) xs.length) ∧ Below w.heap.size w w' := by
  obtain ⟨i3, hi3, z30, z31, z32⟩ := info_parts Tryz.info3'
  have H := hide h
  rw [y.open_]
  have HB := hide (box3_alloc w y)
  clear h
  go_enter Tryz.func18, Tryz.ntmps18
  go_wp2_with (go_at_call 37; refine (unhide H _).mono ?_; rintro e w1 ⟨a, c, rfl, hr1, hb1⟩)
  have hB1 := below_alloc (below_one hb1) (.cells #[.int .i64 (sch : Int), .int .i64 kind, .slice a xs.length c] 75)
  have HBX := hide (World.rowIs.alloc (rowIs_later (unhide HB) hb1) (.cells #[.int .i64 (sch : Int), .int .i64 kind, .slice a xs.length c] 75))
  have HRW := hide (hr1.later (below_alloc (Below.refl _ _) (.cells #[.int .i64 (sch : Int), .int .i64 kind, .slice a xs.length c] 75)))
  obtain ⟨W, hW⟩ : ∃ W, Hid (W = w1.alloc (.cells #[.int .i64 (sch : Int), .int .i64 kind, .slice a xs.length c] 75)) := ⟨_, rfl⟩
  have hcell : W.cell? ⟨w1.heap.size, 2, none⟩ = some (.slice a xs.length c) := by rw [unhide hW]; simp [go_sem]
  rw [← unhide hW] at hB1 HBX HRW ⊢
  clear hb1 hr1 hW HB
  have hz : w.heap.size ≤ W.heap.size := hB1.size
  go_wp2_with fail
  go_loopw [10, 30] (fun v i wr => ∃ k : Nat, k ≤ xs.length ∧ i = .int .i64 (k : Int) ∧ OwnN wr W.heap.size v (fT (hitF op y xs) k) ∧ Below W.heap.size W wr) (fun _ i _ => xs.length - (intOf i).toNat)
  case atStart => exact ⟨0, Nat.zero_le _, rfl, ⟨rfl, .inl ⟨rfl, rfl⟩⟩, Below.refl _ _⟩
  case round =>
    obtain ⟨k, hk, rfl, ho, hb⟩ := hrel
    have hfl := fT_len (hitF op y xs) k
    by_cases hlt : k < xs.length
    · have h9 : (k : Int) < (xs.length : Int) := by omega
      obtain ⟨x, hx⟩ : ∃ x, xs[k]? = some x := ⟨_, List.getElem?_eq_getElem hlt⟩
      obtain ⟨vb, vo, rfl, c0, c1, c2⟩ := ((unhide HRW).later hb).lo hx
      obtain ⟨y0, y1, y2, _, _, _⟩ := box3_facts (World.rowIs.alloc (rowIs_later (unhide HBX) hb) (.cells #[.int .i64 x.k, .int .i64 x.n, .string x.s] 37))
      have HT := hide (test_o op x y (wr.alloc (.cells #[.int .i64 x.k, .int .i64 x.n, .string x.s] 37)))
      have HH := hide (true_any (testV op x y))
      have HN : Hid (fT (hitF op y xs) (k + 1) = fT (hitF op y xs) k ++ (if hitB op y x then [k] else [])) := by show _ = _; rw [fT_next, hitF_at hx]
      have hzr := hb.size
      have HO := hide ho
      have HB2 := hide hb
      have hhd : trueB (testV op x y) = hitB op y x := rfl
      rw [hhd] at HH
      generalize testV op x y = tv at HT HH
      clear hx hb ho hhd
      cases hh : hitB op y x
      · rw [hh] at HH HN
        clear hh
        go_wp2_with (first
          | (go_at_call 46; refine (unhide HT).mono ?_; rintro e w3 ⟨rfl, hb3⟩)
          | (go_at_call 45; refine (unhide HH _).mono ?_; rintro e w4 ⟨rfl, hb4⟩))
        go_roundw
        case rel => exact ⟨k + 1, by omega, by go_num, by rw [unhide HN, if_neg (by decide), List.append_nil]; exact own_later (unhide HO) (below_step (below_one hb3) hb4), below_step (unhide HB2) (below_step (below_one hb3) hb4)⟩
        case measure => simp [intOf]; omega
      · rw [hh] at HH HN
        clear hh
        go_wp2_with (first
          | (go_at_call 46; refine (unhide HT).mono ?_; rintro e w3 ⟨rfl, hb3⟩)
          | (go_at_call 45; refine (unhide HH _).mono ?_; rintro e w4 ⟨rfl, hb4⟩; have hB4 := below_step (below_one hb3) hb4; have ho4 := own_later (unhide HO) hB4; have hs4 := hB4.size)
          | (at_builtin; refine wpList_append_own_at _ rfl (.tmp 40) (.tmp 42) 49 rfl W.heap.size 3 i3 (.int .i64 0) 1 8 Tryz.underlying49 hi3 z30 z31 z32 rfl (by decide) _ _ _ rfl (World.ownsRow.alloc ho4 _) ⟨w4.heap.size, 0, none⟩ 1 1 [.int .i64 (k : Int)] rfl rfl (cell_one_new _ _ _) (by intro u hu; simp at hu; subst hu; rfl) (by unfold maxLen; omega) (by omega) (by simp; omega) ?_; intro v' w5 hown' hgrow _ hat))
        go_roundw
        case rel => exact ⟨k + 1, by omega, by go_num, by rw [unhide HN]; exact ownN_app hown', grown_below (B := W.heap.size) hgrow (by simp; omega) (fun g hg => (World.ownsRow.lt ho4 g hg).1) |> fun h => (below_alloc (below_step (unhide HB2) hB4) _).trans h⟩
        case measure => simp [intOf]; omega
    · have h9 : ¬ (k : Int) < (xs.length : Int) := by omega
      have ek : k = xs.length := by omega
      rw [ek] at ho
      have HE : Hid (OwnN wr w.heap.size u10 (fT (hitF op y xs) xs.length) ∧ Below w.heap.size w wr) := ⟨own_base ho hz, below_step hB1 hb⟩
      clear ho hb ek
      go_wp2
      go_ret2
      exact ⟨_, rfl, unhide HE⟩
end Go.Proofs.YtbcodfbcmkdmgabGreat
