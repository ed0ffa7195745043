import Derived.Test.YtmjeiepljlepbacGreatCellQ
set_option linter.unusedSimpArgs false
set_option linter.unusedVariables false
namespace Go.Proofs.YtmjeiepljlepbacGreat
open Go.RowKit Go.Sort

def endB (op : Int) (x : Val) : Bool := x.k == 1 && ((x.n != 0) == (op == 20))
theorem end_any (op : Int) (g : Nat) (x : Val) (w : World) (hg : w.cell? ⟨g, 0, none⟩ = some (.int .i64 op)) :
    Calls Tryz.prog 160 #[x.v, .pointer (some ⟨g, 0, none⟩)] w fun e w' => e = .returned (.bool (endB op x)) ∧ Below w.heap.size w w' := by
  rw [x.open_]
  unfold endB
  rcases Bool.eq_false_or_eq_true (x.k == 1) with hk | hk
  · have hl : g < w.heap.size := World.block_lt_of_cell? w _ hg
    have hne : ¬ g = w.heap.size := by omega
    have hne' : ¬ w.heap.size = g := by omega
    have hg' : ∀ o, (w.alloc o).cell? ⟨g, 0, none⟩ = some (.int .i64 op) := by
      intro o
      rw [((bcell ((Below.refl w.heap.size w).alloc (Nat.le_refl _) o)).1 _ _ hl), hg]
    go_enter Tryz.func160, Tryz.ntmps160
    go_wp2
    go_ret
    exact ⟨by simp [hk], (Below.refl _ _).alloc (Nat.le_refl _) _⟩
  · go_enter Tryz.func160, Tryz.ntmps160
    go_wp2
    go_ret
    exact ⟨by simp [hk], (Below.refl _ _).alloc (Nat.le_refl _) _⟩

theorem end_and (x : Val) : endB 19 x = falseB x := by unfold endB falseB; cases h : (x.n == 0) <;> simp [bne, h]
theorem end_or (x : Val) : endB 20 x = trueB x := by unfold endB trueB; simp
theorem bothV_and (a b : Val) : bothV 19 a b = if endB 19 a || endB 19 b then truthV false else if a.k == 1 && b.k == 1 then truthV true else .null := by rw [end_and, end_and]; rfl
theorem bothV_or (a b : Val) : bothV 20 a b = if endB 20 a || endB 20 b then truthV true else if a.k == 1 && b.k == 1 then truthV false else .null := by rw [end_or, end_or]; rfl

def boxesO (w : World) (op : Int) (a b : Val) : World := boxes3 (w.alloc (.cells #[.int .i64 op] 3)) a b
theorem boxesO_facts {w w' : World} {op : Int} {a b : Val} (h : Below (boxesO w op a b).heap.size (boxesO w op a b) w') :
    w'.cell? ⟨w.heap.size, 0, none⟩ = some (.int .i64 op) ∧ BoxAt w' (w.heap.size + 1) a ∧ BoxAt w' (w.heap.size + 1 + 1) b ∧ ZeroAt w' (w.heap.size + 1 + 1 + 1) ∧ w.heap.size + 1 + 1 + 1 < w'.heap.size := by
  have f := boxes3_facts (w := w.alloc (.cells #[.int .i64 op] 3)) h
  simp only [World.size_alloc] at f
  refine ⟨?_, f.1, f.2.1, f.2.2.2.2.1, f.2.2.2.2.2⟩
  rw [(bcell h).1 _ _ (by unfold boxesO; rw [boxes3_size]; simp; omega)]
  simp [boxesO, boxes3, boxes, go_sem]
theorem boxesO_below {w w' : World} {op : Int} {a b : Val} (h : Below (boxesO w op a b).heap.size (boxesO w op a b) w') : Below w.heap.size w w' :=
  ((Below.refl _ _).alloc (Nat.le_refl _) _).trans ((boxes3_below (w := w.alloc (.cells #[.int .i64 op] 3)) h).mono (by simp))

set_option maxHeartbeats 2000000 in
set_option maxRecDepth 100000 in
theorem rboth_other (op : Int) (a b : Val) (w : World) (h1 : (op == 19) = false) (h2 : (op == 20) = false) :
    Calls Tryz.prog 110 #[.int .i64 op, a.v, b.v] w fun e w' => e = .returned (bothV op a b).v ∧ Below w.heap.size w w' := by
  have hk3 : bothV op a b = .null := by simp at h1 h2; simp [bothV, h1, h2]
  rw [a.open_, b.open_, hk3]
  clear hk3
  have h1' : (op != 19) = true := by simpa using h1
  have h2' : (op != 20) = true := by simpa using h2
  have hmf : ∀ (fn : Fn) (first cap : Array Value) (w : World), (Instr.makeFunc fn first cap).run Tryz.prog w = .ok (.func fn first cap) w := fun _ _ _ _ => rfl
  have B : Below (boxesO w op a b).heap.size (boxesO w op a b) (boxesO w op a b) := Below.refl _ _
  go_enter Tryz.func110, Tryz.ntmps110
  go_wp2_with (go_at_call 72; refine (none_any _).mono ?_; rintro e w2 ⟨rfl, hb2⟩; replace B := below_step B hb2; clear hb2; obtain ⟨c0, ⟨a0, a1, a2⟩, ⟨b0, b1, b2⟩, ⟨z0, z1, z2, z3, z4, z5⟩, hz⟩ := boxesO_facts B; rw [Val.open_]; simp only [Val.null])
  refine bodyPost_ret (v := Val.null.v) (by simp [results, Tryz.results110, go_sem, Val.v, Val.null, *]) rfl ⟨rfl, ?_⟩
  exact ((((boxesO_below B).setCell (by simp <;> omega) _).setCell (by simp <;> omega) _).setCell (by simp <;> omega) _)

set_option maxHeartbeats 4000000 in
theorem rboth_and (a b : Val) (w : World) :
    Calls Tryz.prog 110 #[.int .i64 19, a.v, b.v] w fun e w' => e = .returned (bothV 19 a b).v ∧ Below w.heap.size w w' := by
  rw [a.open_, b.open_, bothV_and]
  have HA := hide (fun W h => end_any 19 w.heap.size a W h)
  have HB := hide (fun W h => end_any 19 w.heap.size b W h)
  have hmf : ∀ (fn : Fn) (first cap : Array Value) (w : World), (Instr.makeFunc fn first cap).run Tryz.prog w = .ok (.func fn first cap) w := fun _ _ _ _ => rfl
  have B : Below (boxesO w 19 a b).heap.size (boxesO w 19 a b) (boxesO w 19 a b) := Below.refl _ _
  have hC : (boxesO w 19 a b).cell? ⟨w.heap.size, 0, none⟩ = some (.int .i64 19) := (boxesO_facts B).1
  generalize endB 19 a = ea at *
  generalize endB 19 b = eb at *
  cases ea; cases eb; rcases Bool.eq_false_or_eq_true (a.k == 1) with ka | ka; rcases Bool.eq_false_or_eq_true (b.k == 1) with kb | kb
  all_goals
    (try (have ka' : (a.k != 1) = !(a.k == 1) := rfl; rw [ka] at ka'; simp only [Bool.not_true, Bool.not_false] at ka'))
    (try (have kb' : (b.k != 1) = !(b.k == 1) := rfl; rw [kb] at kb'; simp only [Bool.not_true, Bool.not_false] at kb'))
    (try simp only [ka])
    (try simp only [kb])
    simp only [Bool.or_true, Bool.or_false, Bool.true_or, Bool.false_or, Bool.and_true, Bool.and_false, Bool.true_and, Bool.false_and, if_true, if_false, Bool.false_eq_true]
    go_enter Tryz.func110, Tryz.ntmps110
    go_wp2_with (first
      | (go_at_call_of 160 (Value.agg #[Value.int IntKind.i64 a.k, Value.int IntKind.i64 a.n, Value.string a.s]); refine (unhide HA _ (by first | exact hC | assumption)).mono ?_; rintro e w1 ⟨rfl, hb1⟩; replace B := below_step B hb1; clear hb1; obtain ⟨c0, ⟨a0, a1, a2⟩, ⟨b0, b1, b2⟩, ⟨z0, z1, z2, z3, z4, z5⟩, hz⟩ := boxesO_facts B)
      | (go_at_call_of 160 (Value.agg #[Value.int IntKind.i64 b.k, Value.int IntKind.i64 b.n, Value.string b.s]); refine (unhide HB _ (by first | assumption | exact hC)).mono ?_; rintro e w1 ⟨rfl, hb1⟩; replace B := below_step B hb1; clear hb1; obtain ⟨c0, ⟨a0, a1, a2⟩, ⟨b0, b1, b2⟩, ⟨z0, z1, z2, z3, z4, z5⟩, hz⟩ := boxesO_facts B)
      | (go_at_call 107; refine (rtruth_any _ _).mono ?_; rintro e w2 ⟨rfl, hb2⟩; replace B := below_step B hb2; clear hb2; obtain ⟨c0, ⟨a0, a1, a2⟩, ⟨b0, b1, b2⟩, ⟨z0, z1, z2, z3, z4, z5⟩, hz⟩ := boxesO_facts B; rw [Val.open_])
      | (go_at_call 72; refine (none_any _).mono ?_; rintro e w2 ⟨rfl, hb2⟩; replace B := below_step B hb2; clear hb2; obtain ⟨c0, ⟨a0, a1, a2⟩, ⟨b0, b1, b2⟩, ⟨z0, z1, z2, z3, z4, z5⟩, hz⟩ := boxesO_facts B; rw [Val.open_]; simp only [Val.null]))
    first
      | (refine bodyPost_ret (v := Val.null.v) (by simp [results, Tryz.results110, go_sem, Val.v, Val.null, *]; done) rfl ⟨rfl, ?_⟩; exact ((((boxesO_below B).setCell (by simp <;> omega) _).setCell (by simp <;> omega) _).setCell (by simp <;> omega) _))
      | (refine bodyPost_ret (v := (truthV true).v) (by simp [results, Tryz.results110, go_sem, Val.v, *]; done) rfl ⟨rfl, ?_⟩; exact ((((boxesO_below B).setCell (by simp <;> omega) _).setCell (by simp <;> omega) _).setCell (by simp <;> omega) _))
      | (refine bodyPost_ret (v := (truthV false).v) (by simp [results, Tryz.results110, go_sem, Val.v, *]; done) rfl ⟨rfl, ?_⟩; exact ((((boxesO_below B).setCell (by simp <;> omega) _).setCell (by simp <;> omega) _).setCell (by simp <;> omega) _))

set_option maxHeartbeats 4000000 in
theorem rboth_or (a b : Val) (w : World) :
    Calls Tryz.prog 110 #[.int .i64 20, a.v, b.v] w fun e w' => e = .returned (bothV 20 a b).v ∧ Below w.heap.size w w' := by
  rw [a.open_, b.open_, bothV_or]
  have HA := hide (fun W h => end_any 20 w.heap.size a W h)
  have HB := hide (fun W h => end_any 20 w.heap.size b W h)
  have hmf : ∀ (fn : Fn) (first cap : Array Value) (w : World), (Instr.makeFunc fn first cap).run Tryz.prog w = .ok (.func fn first cap) w := fun _ _ _ _ => rfl
  have B : Below (boxesO w 20 a b).heap.size (boxesO w 20 a b) (boxesO w 20 a b) := Below.refl _ _
  have hC : (boxesO w 20 a b).cell? ⟨w.heap.size, 0, none⟩ = some (.int .i64 20) := (boxesO_facts B).1
  generalize endB 20 a = ea at *
  generalize endB 20 b = eb at *
  cases ea; cases eb; rcases Bool.eq_false_or_eq_true (a.k == 1) with ka | ka; rcases Bool.eq_false_or_eq_true (b.k == 1) with kb | kb
  all_goals
    (try (have ka' : (a.k != 1) = !(a.k == 1) := rfl; rw [ka] at ka'; simp only [Bool.not_true, Bool.not_false] at ka'))
    (try (have kb' : (b.k != 1) = !(b.k == 1) := rfl; rw [kb] at kb'; simp only [Bool.not_true, Bool.not_false] at kb'))
    (try simp only [ka])
    (try simp only [kb])
    simp only [Bool.or_true, Bool.or_false, Bool.true_or, Bool.false_or, Bool.and_true, Bool.and_false, Bool.true_and, Bool.false_and, if_true, if_false, Bool.false_eq_true]
    go_enter Tryz.func110, Tryz.ntmps110
    go_wp2_with (first
      | (go_at_call_of 160 (Value.agg #[Value.int IntKind.i64 a.k, Value.int IntKind.i64 a.n, Value.string a.s]); refine (unhide HA _ (by first | exact hC | assumption)).mono ?_; rintro e w1 ⟨rfl, hb1⟩; replace B := below_step B hb1; clear hb1; obtain ⟨c0, ⟨a0, a1, a2⟩, ⟨b0, b1, b2⟩, ⟨z0, z1, z2, z3, z4, z5⟩, hz⟩ := boxesO_facts B)
      | (go_at_call_of 160 (Value.agg #[Value.int IntKind.i64 b.k, Value.int IntKind.i64 b.n, Value.string b.s]); refine (unhide HB _ (by first | assumption | exact hC)).mono ?_; rintro e w1 ⟨rfl, hb1⟩; replace B := below_step B hb1; clear hb1; obtain ⟨c0, ⟨a0, a1, a2⟩, ⟨b0, b1, b2⟩, ⟨z0, z1, z2, z3, z4, z5⟩, hz⟩ := boxesO_facts B)
      | (go_at_call 107; refine (rtruth_any _ _).mono ?_; rintro e w2 ⟨rfl, hb2⟩; replace B := below_step B hb2; clear hb2; obtain ⟨c0, ⟨a0, a1, a2⟩, ⟨b0, b1, b2⟩, ⟨z0, z1, z2, z3, z4, z5⟩, hz⟩ := boxesO_facts B; rw [Val.open_])
      | (go_at_call 72; refine (none_any _).mono ?_; rintro e w2 ⟨rfl, hb2⟩; replace B := below_step B hb2; clear hb2; obtain ⟨c0, ⟨a0, a1, a2⟩, ⟨b0, b1, b2⟩, ⟨z0, z1, z2, z3, z4, z5⟩, hz⟩ := boxesO_facts B; rw [Val.open_]; simp only [Val.null]))
    first
      | (refine bodyPost_ret (v := Val.null.v) (by simp [results, Tryz.results110, go_sem, Val.v, Val.null, *]; done) rfl ⟨rfl, ?_⟩; exact ((((boxesO_below B).setCell (by simp <;> omega) _).setCell (by simp <;> omega) _).setCell (by simp <;> omega) _))
      | (refine bodyPost_ret (v := (truthV true).v) (by simp [results, Tryz.results110, go_sem, Val.v, *]; done) rfl ⟨rfl, ?_⟩; exact ((((boxesO_below B).setCell (by simp <;> omega) _).setCell (by simp <;> omega) _).setCell (by simp <;> omega) _))
      | (refine bodyPost_ret (v := (truthV false).v) (by simp [results, Tryz.results110, go_sem, Val.v, *]; done) rfl ⟨rfl, ?_⟩; exact ((((boxesO_below B).setCell (by simp <;> omega) _).setCell (by simp <;> omega) _).setCell (by simp <;> omega) _))

theorem rboth_any (op : Int) (a b : Val) (w : World) :
    Calls Tryz.prog 110 #[.int .i64 op, a.v, b.v] w fun e w' => e = .returned (bothV op a b).v ∧ Below w.heap.size w w' := by
  by_cases h1 : op = 19
  · subst h1; exact rboth_and a b w
  · by_cases h2 : op = 20
    · subst h2; exact rboth_or a b w
    · exact rboth_other op a b w (by simpa using h1) (by simpa using h2)
theorem both_anyL (op : Int) (a b : Val) (w : World) :
    Calls Tryz.prog 203 #[.int .i64 op, a.v, b.v] w fun e w' => e = .returned (bothV op a b).v ∧ Below w.heap.size w w' := by
  by_cases h1 : op = 19
  · subst h1; exact both_and a b w
  · by_cases h2 : op = 20
    · subst h2; exact both_or a b w
    · exact both_other op a b w (by simpa using h1) (by simpa using h2)
theorem clean_k (x : Val) : ((cleanV x).k == 1) = (x.k == 1) := by
  unfold cleanV
  rcases Bool.eq_false_or_eq_true (x.k == 1) with h1 | h1 <;> rcases Bool.eq_false_or_eq_true (x.k == 2) with h2 | h2 <;> simp [h1, h2, Val.num, Val.str, Val.null]
theorem clean_one (x : Val) (h : (x.k == 1) = true) : cleanV x = .num x.n := by unfold cleanV; simp [h]
theorem true_cleanL (x : Val) : trueB (cleanV x) = trueB x := by
  rcases Bool.eq_false_or_eq_true (x.k == 1) with h | h
  · rw [clean_one x h]; simp [trueB, Val.num, h]
  · simp [trueB, clean_k, h]
theorem false_clean (x : Val) : falseB (cleanV x) = falseB x := by
  rcases Bool.eq_false_or_eq_true (x.k == 1) with h | h
  · rw [clean_one x h]; simp [falseB, Val.num, h]
  · simp [falseB, clean_k, h]
theorem not_clean (x : Val) : notV (cleanV x) = notV x := by
  have h := clean_k x
  rcases Bool.eq_false_or_eq_true (x.k == 1) with h1 | h1
  · rw [h1] at h; simp at h h1; simp [notV, h, h1, true_cleanL]
  · rw [h1] at h; simp at h h1; simp [notV, h, h1]
theorem both_clean (op : Int) (a b : Val) : bothV op (cleanV a) (cleanV b) = bothV op a b := by
  unfold bothV
  rw [true_cleanL, true_cleanL, false_clean, false_clean, clean_k, clean_k]

end Go.Proofs.YtmjeiepljlepbacGreat
