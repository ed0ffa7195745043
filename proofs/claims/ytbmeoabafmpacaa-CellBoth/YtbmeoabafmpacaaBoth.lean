import Derived.Test.YtbmeoabafmpacaaCellB
import Derived.Deep.DeepCutAuto
import Derived.Deep.DrawnRows
set_option linter.unusedSimpArgs false
set_option linter.unusedVariables false
namespace Go.Proofs.Ytbmeoabafmpacaa
open Go.RowKit Go.Sort
attribute [local go_sem ↓] Go.wp_at_zero Go.wp_at_succ

theorem below_step {W0 w' w1 : World} (h : Below W0.heap.size W0 w') (h1 : Below w'.heap.size w' w1) : Below W0.heap.size W0 w1 := h.trans (h1.mono h.size)
theorem below_alloc {W0 w' : World} (h : Below W0.heap.size W0 w') (o : Obj) : Below W0.heap.size W0 (w'.alloc o) := h.alloc h.size o

def boxes (w : World) (a b : Val) : World := (w.alloc (.cells #[.int .i64 a.k, .int .i64 a.n, .string a.s] 23)).alloc (.cells #[.int .i64 b.k, .int .i64 b.n, .string b.s] 23)
theorem boxes_size (w : World) (a b : Val) : (boxes w a b).heap.size = w.heap.size + 1 + 1 := by simp [boxes]

theorem two_of {W0 w w' : World} {a b : Val} (hW : Hid (W0 = boxes w a b)) (hb : Below W0.heap.size W0 w') :
    Below W0.heap.size W0 w' ∧ w.heap.size + 1 < w'.heap.size ∧ w'.cell? ⟨w.heap.size, 0, none⟩ = some (.int .i64 a.k) ∧ w'.cell? ⟨w.heap.size, 1, none⟩ = some (.int .i64 a.n) ∧ w'.cell? ⟨w.heap.size, 2, none⟩ = some (.string a.s) ∧ w'.cell? ⟨w.heap.size + 1, 0, none⟩ = some (.int .i64 b.k) ∧ w'.cell? ⟨w.heap.size + 1, 1, none⟩ = some (.int .i64 b.n) ∧ w'.cell? ⟨w.heap.size + 1, 2, none⟩ = some (.string b.s) := by
  obtain rfl : W0 = boxes w a b := hW
  have hs := hb.size
  obtain ⟨hc, hf⟩ := bcell hb
  rw [boxes_size] at hs
  refine ⟨hb, by omega, ?_, ?_, ?_, ?_, ?_, ?_⟩ <;> (rw [hc _ _ (by rw [boxes_size]; omega)]; simp [boxes, go_sem])
theorem below_start {W0 w : World} {a b : Val} (hW : Hid (W0 = boxes w a b)) : Below W0.heap.size W0 (boxes w a b).drew := by
  obtain rfl : W0 = boxes w a b := hW
  exact (Below.refl _ _).drew
theorem below_start0 {W0 w : World} {a b : Val} (hW : Hid (W0 = boxes w a b)) : Below W0.heap.size W0 (boxes w a b) := by
  obtain rfl : W0 = boxes w a b := hW
  exact Below.refl _ _
theorem below_all {W0 w w' : World} {a b : Val} (hW : Hid (W0 = boxes w a b)) (h : Below W0.heap.size W0 w') : Below w.heap.size w w' := by
  obtain rfl : W0 = boxes w a b := hW
  exact (((Below.refl _ _).alloc (Nat.le_refl _) _).alloc (by simp) _).trans (h.mono (by rw [boxes_size]; omega))
theorem start_size {W0 w : World} {a b : Val} (hW : Hid (W0 = boxes w a b)) : W0.heap.size = w.heap.size + 1 + 1 := by
  obtain rfl : W0 = boxes w a b := hW
  exact boxes_size w a b

/-- A new box, as an alloc leaves it. -/
def Z (w : World) (b : Nat) : Prop := w.cell? ⟨b, 0, none⟩ = some (.int .i64 0) ∧ w.cell? ⟨b, 1, none⟩ = some (.int .i64 0) ∧ w.cell? ⟨b, 2, none⟩ = some (.string ⟨#[]⟩) ∧ w.frozen? ⟨b, 0, none⟩ = false ∧ w.frozen? ⟨b, 1, none⟩ = false ∧ w.frozen? ⟨b, 2, none⟩ = false
abbrev Z23 : Obj := .cells #[.int .i64 0, .int .i64 0, .string ⟨#[]⟩] 23
theorem Z.later {w w1 : World} {b : Nat} (h : Z w b) (hb : Below w.heap.size w w1) : Z w1 b ∧ b < w1.heap.size := by
  obtain ⟨h0, h1, h2, f0, f1, f2⟩ := h
  obtain ⟨hc, hf⟩ := bcell hb
  have hl : b < w.heap.size := World.block_lt_of_cell? w _ h0
  have hs := hb.size
  unfold Z
  rw [hc _ _ hl, hc _ _ hl, hc _ _ hl, hf _ _ hl, hf _ _ hl, hf _ _ hl]
  exact ⟨⟨h0, h1, h2, f0, f1, f2⟩, by omega⟩
theorem Z.alloc {w : World} {b : Nat} (h : Z w b) (o : Obj) : Z (w.alloc o) b := by
  have hl : b < w.heap.size := World.block_lt_of_cell? w _ h.1
  exact (h.later ((Below.refl _ _).alloc (Nat.le_refl _) o)).1
theorem Z.new (w : World) : Z (w.alloc Z23) w.heap.size := by
  unfold Z Z23; simp [go_sem]
theorem z_last {W w1 : World} (h : Below (W.alloc Z23).heap.size (W.alloc Z23) w1) : Z w1 W.heap.size ∧ W.heap.size < w1.heap.size := (Z.new W).later h
theorem z_prev {W w1 : World} (h : Below ((W.alloc Z23).alloc Z23).heap.size ((W.alloc Z23).alloc Z23) w1) : Z w1 W.heap.size ∧ W.heap.size < w1.heap.size := ((Z.new W).alloc _).later h
theorem z_lastd {W w1 : World} (h : Below (W.alloc Z23).drew.heap.size (W.alloc Z23).drew w1) : Z w1 W.heap.size ∧ W.heap.size < w1.heap.size := (show Z (W.alloc Z23).drew W.heap.size from Z.new W).later h
theorem z_prevd {W w1 : World} (h : Below ((W.alloc Z23).alloc Z23).drew.heap.size ((W.alloc Z23).alloc Z23).drew w1) : Z w1 W.heap.size ∧ W.heap.size < w1.heap.size := (show Z ((W.alloc Z23).alloc Z23).drew W.heap.size from (Z.new W).alloc _).later h
theorem z_keep {w w1 : World} {b : Nat} (h : Z w b) (h1 : Below w.heap.size w w1) : Z w1 b ∧ b < w1.heap.size := h.later h1
theorem z_keep2 {w w1 : World} {b : Nat} {o : Obj} (h : Z w b) (h1 : Below (w.alloc o).heap.size (w.alloc o) w1) : Z w1 b ∧ b < w1.heap.size := (h.alloc o).later h1

/-- The three cells of a value's box. -/
def BoxAt (w : World) (b : Nat) (x : Val) : Prop := w.cell? ⟨b, 0, none⟩ = some (.int .i64 x.k) ∧ w.cell? ⟨b, 1, none⟩ = some (.int .i64 x.n) ∧ w.cell? ⟨b, 2, none⟩ = some (.string x.s)
theorem BoxAt.later {w w' : World} {b : Nat} {x : Val} (h : BoxAt w b x) (hb : Below w.heap.size w w') : BoxAt w' b x :=
  ⟨cell_later hb h.1, cell_later hb h.2.1, cell_later hb h.2.2⟩

theorem truth_k (c : Bool) : (truthV c).k = 1 := by cases c <;> rfl
theorem true_truth (c : Bool) : trueB (truthV c) = c := by cases c <;> rfl
theorem false_truth (c : Bool) : falseB (truthV c) = !c := by cases c <;> rfl
theorem null_k : Val.null.k = 0 := rfl
theorem true_null : trueB .null = false := rfl
theorem false_null : falseB .null = false := rfl
theorem false_of (x : Val) (h : x.k = 1) : falseB x = !trueB x := by simp [falseB, trueB, h, bne]
theorem false_no (x : Val) (h : ¬ x.k = 1) : falseB x = false := by simp [falseB, h]
theorem true_no (x : Val) (h : ¬ x.k = 1) : trueB x = false := by simp [trueB, h]

theorem morgan1 (a b : Val) : bothV 20 (notV a) (notV b) = notV (bothV 19 a b) := by
  by_cases ha : a.k = 1 <;> by_cases hb : b.k = 1
  · cases h1 : trueB a <;> cases h2 : trueB b <;> simp [bothV, notV, ha, hb, truth_k, true_truth, false_truth, false_of a ha, false_of b hb, h1, h2]
  · cases h1 : trueB a <;> simp [bothV, notV, ha, hb, truth_k, true_truth, false_truth, false_of a ha, false_no b hb, h1, null_k, true_null]
  · cases h2 : trueB b <;> simp [bothV, notV, ha, hb, truth_k, true_truth, false_truth, false_of b hb, false_no a ha, h2, null_k, true_null]
  · simp [bothV, notV, ha, hb, false_no a ha, false_no b hb, null_k, true_null]
theorem morgan2 (a b : Val) : bothV 19 (notV a) (notV b) = notV (bothV 20 a b) := by
  by_cases ha : a.k = 1 <;> by_cases hb : b.k = 1
  · cases h1 : trueB a <;> cases h2 : trueB b <;> simp [bothV, notV, ha, hb, truth_k, true_truth, false_truth, h1, h2]
  · cases h1 : trueB a <;> simp [bothV, notV, ha, hb, truth_k, true_truth, false_truth, true_no b hb, h1, null_k, false_null]
  · cases h2 : trueB b <;> simp [bothV, notV, ha, hb, truth_k, true_truth, false_truth, true_no a ha, h2, null_k, false_null]
  · simp [bothV, notV, ha, hb, true_no a ha, true_no b hb, null_k, false_null]
theorem both_comm (op : Int) (a b : Val) : bothV op b a = bothV op a b := by
  simp only [bothV, Bool.or_comm (falseB b), Bool.or_comm (trueB b), Bool.and_comm (b.k == 1)]

/-- A value, laid open. -/
abbrev Val.o (x : Val) : Value := .agg #[.int .i64 x.k, .int .i64 x.n, .string x.s]
theorem not_o (x : Val) (w : World) : Calls Try.prog 21 #[.agg #[.int .i64 x.k, .int .i64 x.n, .string x.s]] w fun e w' => e = .returned (.agg #[.int .i64 (notV x).k, .int .i64 (notV x).n, .string (notV x).s]) ∧ Below w.heap.size w w' := not_any x w
theorem or_o (x y r : Val) (h : bothV 20 x y = r) (w : World) : Calls Try.prog 23 #[.int .i64 20, .agg #[.int .i64 x.k, .int .i64 x.n, .string x.s], .agg #[.int .i64 y.k, .int .i64 y.n, .string y.s]] w fun e w' => e = .returned (.agg #[.int .i64 r.k, .int .i64 r.n, .string r.s]) ∧ Below w.heap.size w w' := h ▸ both_or x y w
theorem and_o (x y r : Val) (h : bothV 19 x y = r) (w : World) : Calls Try.prog 23 #[.int .i64 19, .agg #[.int .i64 x.k, .int .i64 x.n, .string x.s], .agg #[.int .i64 y.k, .int .i64 y.n, .string y.s]] w fun e w' => e = .returned (.agg #[.int .i64 r.k, .int .i64 r.n, .string r.s]) ∧ Below w.heap.size w w' := h ▸ both_and x y w

theorem one_and (w : World) : Calls Try.prog 23 #[.int .i64 19, .agg #[.int .i64 1, .int .i64 1, .string ⟨#[]⟩], .agg #[.int .i64 1, .int .i64 1, .string ⟨#[]⟩]] w fun e w' => e = .returned (.agg #[.int .i64 1, .int .i64 1, .string ⟨#[]⟩]) ∧ Below w.heap.size w w' := both_and ⟨1, 1, ⟨#[]⟩⟩ ⟨1, 1, ⟨#[]⟩⟩ w
theorem one_or (w : World) : Calls Try.prog 23 #[.int .i64 20, .agg #[.int .i64 0, .int .i64 0, .string ⟨#[]⟩], .agg #[.int .i64 1, .int .i64 1, .string ⟨#[]⟩]] w fun e w' => e = .returned (.agg #[.int .i64 1, .int .i64 1, .string ⟨#[]⟩]) ∧ Below w.heap.size w w' := both_or ⟨0, 0, ⟨#[]⟩⟩ ⟨1, 1, ⟨#[]⟩⟩ w

set_option maxHeartbeats 8000000 in
set_option maxRecDepth 100000 in
theorem law_both (a b : Val) (w : World) :
    Calls Try.prog 8 #[a.v, b.v] w fun e w' => e = .returned (.bool true) ∧ Below w.heap.size w w' := by
  rw [a.open_, b.open_]
  obtain ⟨W0, hW0⟩ : ∃ W0, Hid (W0 = boxes w a b) := ⟨_, rfl⟩
  go_enter Try.func8, Try.ntmps8
  go_upto_region 1 with fail
  go_cut [5, 6] (fun s5 s6 wx => ∃ b5 b6, s5 = .pointer (some ⟨b5, 0, none⟩) ∧ s6 = .pointer (some ⟨b6, 0, none⟩) ∧ BoxAt wx b5 (bothV 19 a b) ∧ BoxAt wx b6 (bothV 20 a b) ∧ Below W0.heap.size W0 wx)
  case first =>
    go_region_held3 (fun w' => Below W0.heap.size W0 w' ∧ w.heap.size + 1 < w'.heap.size ∧ w'.cell? ⟨w.heap.size, 0, none⟩ = some (.int .i64 a.k) ∧ w'.cell? ⟨w.heap.size, 1, none⟩ = some (.int .i64 a.n) ∧ w'.cell? ⟨w.heap.size, 2, none⟩ = some (.string a.s) ∧ w'.cell? ⟨w.heap.size + 1, 0, none⟩ = some (.int .i64 b.k) ∧ w'.cell? ⟨w.heap.size + 1, 1, none⟩ = some (.int .i64 b.n) ∧ w'.cell? ⟨w.heap.size + 1, 2, none⟩ = some (.string b.s))
      ((refine two_of hW0 ?_; (try go_split_ands); (repeat (first | refine Below.setCell ?_ (Nat.le_trans (Nat.le_of_eq (start_size hW0)) (by first | omega | (simp; done) | (simp; omega))) _ | exact below_start0 hW0 | refine below_alloc ?_ _ | assumption | refine below_step ?_ (by assumption) | refine Below.drew ?_))))
      (first
        | (go_at_call_of 23 (Value.int IntKind.i64 19); refine (both_and a b _).mono ?_; rintro e w1 ⟨rfl, hb1⟩; rw [Val.open_]; have hs1 := hb1.size; (try simp only [World.size_alloc, World.size_drew] at hs1); (try (have lz := z_last hb1; obtain ⟨l1, l2⟩ := lz; (try simp only [World.size_alloc, World.size_drew] at l1); (try simp only [World.size_alloc, World.size_drew] at l2); have L1 := l1; unfold Z at l1; obtain ⟨c0, c1, c2, f0, f1, f2⟩ := l1)); (try (have lz := z_lastd hb1; obtain ⟨l1, l2⟩ := lz; (try simp only [World.size_alloc, World.size_drew] at l1); (try simp only [World.size_alloc, World.size_drew] at l2); have L1 := l1; unfold Z at l1; obtain ⟨c0, c1, c2, f0, f1, f2⟩ := l1)); (try (have lz := z_prev hb1; obtain ⟨l1, l2⟩ := lz; (try simp only [World.size_alloc, World.size_drew] at l1); (try simp only [World.size_alloc, World.size_drew] at l2); have M1 := l1; unfold Z at l1; obtain ⟨d0, d1, d2, g0, g1, g2⟩ := l1)); (try (have lz := z_prevd hb1; obtain ⟨l1, l2⟩ := lz; (try simp only [World.size_alloc, World.size_drew] at l1); (try simp only [World.size_alloc, World.size_drew] at l2); have M1 := l1; unfold Z at l1; obtain ⟨d0, d1, d2, g0, g1, g2⟩ := l1)))
        | (go_at_call_of 23 (Value.int IntKind.i64 20); refine (both_or a b _).mono ?_; rintro e w2 ⟨rfl, hb2⟩; rw [Val.open_]; have hs2 := hb2.size; (try simp only [World.size_alloc, World.size_drew] at hs2); (try (have lz := z_last hb2; obtain ⟨l1, l2⟩ := lz; (try simp only [World.size_alloc, World.size_drew] at l1); (try simp only [World.size_alloc, World.size_drew] at l2); unfold Z at l1; obtain ⟨c0, c1, c2, f0, f1, f2⟩ := l1)); (try (have lz := z_prev hb2; obtain ⟨l1, l2⟩ := lz; (try simp only [World.size_alloc, World.size_drew] at l1); (try simp only [World.size_alloc, World.size_drew] at l2); unfold Z at l1; obtain ⟨d0, d1, d2, g0, g1, g2⟩ := l1)); (try (have lz := z_keep L1 hb2; obtain ⟨l1, l2⟩ := lz; (try simp only [World.size_alloc, World.size_drew] at l1); (try simp only [World.size_alloc, World.size_drew] at l2); unfold Z at l1; obtain ⟨c0, c1, c2, f0, f1, f2⟩ := l1)); (try (have lz := z_keep2 L1 hb2; obtain ⟨l1, l2⟩ := lz; (try simp only [World.size_alloc, World.size_drew] at l1); (try simp only [World.size_alloc, World.size_drew] at l2); unfold Z at l1; obtain ⟨c0, c1, c2, f0, f1, f2⟩ := l1)); (try (have lz := z_keep M1 hb2; obtain ⟨l1, l2⟩ := lz; (try simp only [World.size_alloc, World.size_drew] at l1); (try simp only [World.size_alloc, World.size_drew] at l2); unfold Z at l1; obtain ⟨d0, d1, d2, g0, g1, g2⟩ := l1))))
    all_goals
      go_wp2_with fail
      go_meet
      refine ⟨_, _, rfl, rfl, ?_, ?_, ?_⟩
      · unfold BoxAt; refine ⟨?_, ?_, ?_⟩ <;> simp [go_sem, *]
      · unfold BoxAt; refine ⟨?_, ?_, ?_⟩ <;> simp [go_sem, *]
      · go_split_ands; assumption
  case rest =>
    obtain ⟨b5, b6, rfl, rfl, h5, h6, hB⟩ := hcut
    rename World => wa
    have hw : Below w.heap.size w wa := below_all hW0 hB
    obtain ⟨hA1, hA2⟩ : BoxAt wa w.heap.size a ∧ BoxAt wa (w.heap.size + 1) b := by
      obtain ⟨_, _, c0, c1, c2, c3, c4, c5⟩ := two_of hW0 hB
      exact ⟨⟨c0, c1, c2⟩, ⟨c3, c4, c5⟩⟩
    clear hB hW0
    have H1 := hide (not_o (bothV 19 a b))
    have H2 := hide (not_o (bothV 20 a b))
    have H3 := hide (not_o a)
    have H4 := hide (not_o b)
    have H5 := hide (or_o (notV a) (notV b) _ (morgan1 a b))
    have H6 := hide (and_o (notV a) (notV b) _ (morgan2 a b))
    have H7 := hide (and_o b a _ (both_comm 19 a b))
    have H8 := hide (or_o b a _ (both_comm 20 a b))
    generalize notV (bothV 19 a b) = m5 at *
    generalize notV (bothV 20 a b) = m6 at *
    generalize bothV 19 a b = n5 at *
    generalize bothV 20 a b = n6 at *
    generalize notV a = na at *
    generalize notV b = nb at *
    go_upto_region 2 with fail
    go_cut [31] (fun s31 wx => s31 = .bool false ∧ Below wa.heap.size wa wx)
    case first =>
      clear H7 H8
      obtain ⟨q0, q1, q2⟩ := hA1
      obtain ⟨q3, q4, q5⟩ := hA2
      obtain ⟨q6, q7, q8⟩ := h5
      obtain ⟨q9, q10, q11⟩ := h6
      have k0 := cell_regrown q0
      have k1 := cell_regrown q1
      have k2 := cell_regrown q2
      have k3 := cell_regrown q3
      have k4 := cell_regrown q4
      have k5 := cell_regrown q5
      have k6 := cell_regrown q6
      have k7 := cell_regrown q7
      have k8 := cell_regrown q8
      have k9 := cell_regrown q9
      have k10 := cell_regrown q10
      have k11 := cell_regrown q11
      clear q0 q1 q2 q3 q4 q5 q6 q7 q8 q9 q10 q11
      refine wp_region_quiet_below (by kernel_rfl) (by kernel_rfl) ?_
      repeat (go_big_quiet_step (first
        | (go_at_call_of 21 (Value.agg #[Value.int IntKind.i64 n5.k, Value.int IntKind.i64 n5.n, Value.string n5.s]); exact Calls.regrown_of (unhide H1 _))
        | (go_at_call_of 21 (Value.agg #[Value.int IntKind.i64 n6.k, Value.int IntKind.i64 n6.n, Value.string n6.s]); exact Calls.regrown_of (unhide H2 _))
        | (go_at_call_of 21 (Value.agg #[Value.int IntKind.i64 a.k, Value.int IntKind.i64 a.n, Value.string a.s]); exact Calls.regrown_of (unhide H3 _))
        | (go_at_call_of 21 (Value.agg #[Value.int IntKind.i64 b.k, Value.int IntKind.i64 b.n, Value.string b.s]); exact Calls.regrown_of (unhide H4 _))
        | (go_at_call_of 23 (Value.int IntKind.i64 20); exact Calls.regrown_of (unhide H5 _))
        | (go_at_call_of 23 (Value.int IntKind.i64 19); exact Calls.regrown_of (unhide H6 _))))
      refine wpQuiet_nil ?_
      intro w' hw'
      have hB : Below wa.heap.size wa w' := by obtain ⟨p, rfl⟩ := hw'; exact below_regrown _ _ _
      clear hw'
      go_wp2
      go_meet
      exact ⟨rfl, hB⟩
    case rest =>
      obtain ⟨rfl, hB⟩ := hcut
      replace hw := below_step hw hB
      replace hA1 := hA1.later hB
      replace hA2 := hA2.later hB
      replace h5 := h5.later hB
      replace h6 := h6.later hB
      clear hB
      rename World => wb
      go_upto_region 4 with fail
      go_cut [7] (fun s7 wx => s7 = .pointer (some ⟨wb.heap.size, 0, none⟩) ∧ BoxAt wx wb.heap.size ⟨1, 1, ⟨#[]⟩⟩ ∧ Below wb.heap.size wb wx)
      case first =>
        go_wp2
        go_meet
        exact ⟨rfl, ⟨by simp [go_sem], by simp [go_sem], by simp [go_sem]⟩, (Below.refl _ _).alloc (Nat.le_refl _) _⟩
      case rest =>
        obtain ⟨rfl, h7, hB⟩ := hcut
        replace hw := below_step hw hB
        replace hA1 := hA1.later hB
        replace hA2 := hA2.later hB
        replace h5 := h5.later hB
        replace h6 := h6.later hB
        clear hB
        rename World => wd
        go_upto_region 5 with fail
        obtain ⟨q0, q1, q2⟩ := hA1
        obtain ⟨q3, q4, q5⟩ := hA2
        obtain ⟨q6, q7, q8⟩ := h5
        obtain ⟨q9, q10, q11⟩ := h6
        obtain ⟨q12, q13, q14⟩ := h7
        have k0 := cell_regrown q0
        have k1 := cell_regrown q1
        have k2 := cell_regrown q2
        have k3 := cell_regrown q3
        have k4 := cell_regrown q4
        have k5 := cell_regrown q5
        have k6 := cell_regrown q6
        have k7 := cell_regrown q7
        have k8 := cell_regrown q8
        have k9 := cell_regrown q9
        have k10 := cell_regrown q10
        have k11 := cell_regrown q11
        have k12 := cell_regrown q12
        have k13 := cell_regrown q13
        have k14 := cell_regrown q14
        refine wp_region_quiet_below (by kernel_rfl) (by kernel_rfl) ?_
        repeat (go_big_quiet_step (first
          | (go_at_call_of 23 (Value.agg #[Value.int IntKind.i64 0, Value.int IntKind.i64 0, Value.string ⟨#[]⟩]); exact Calls.regrown_of (one_or _))
          | (go_at_call_of 23 (Value.agg #[Value.int IntKind.i64 1, Value.int IntKind.i64 1, Value.string ⟨#[]⟩]); exact Calls.regrown_of (one_and _))
          | (go_at_call_of 23 (Value.int IntKind.i64 19); exact Calls.regrown_of (unhide H7 _))
          | (go_at_call_of 23 (Value.int IntKind.i64 20); exact Calls.regrown_of (unhide H8 _))))
        refine wpQuiet_nil ?_
        intro w' hw'
        have hB : Below wd.heap.size wd w' := by obtain ⟨p, rfl⟩ := hw'; exact below_regrown _ _ _
        clear hw'
        go_wp2
        go_ret
        exact ⟨rfl, below_step hw hB⟩

end Go.Proofs.Ytbmeoabafmpacaa
