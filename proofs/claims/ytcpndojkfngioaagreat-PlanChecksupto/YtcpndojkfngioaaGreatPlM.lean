import Derived.Test.YtcpndojkfngioaaGreatPlL
set_option linter.unusedSimpArgs false
set_option linter.unusedVariables false
namespace Go.Proofs.YtcpndojkfngioaaGreat
open Go.RowKit Go.Sort

/-- Alike, but for the operator and Args, in all that is looked at. -/
def alikeB (p q : Pl) : Bool := decide (p.tab = q.tab) && decide (p.ex.length = q.ex.length) && decide (p.cols.length = q.cols.length) && decide (p.keys.length = q.keys.length) && decide (p.aggs.length = q.aggs.length) && decide (p.fn = q.fn) && decide (p.col = q.col) && decide (p.n = q.n) && decide (p.off = q.off)
theorem toList_data' (s : ByteArray) : s.toList = s.data.toList := Lib.toList_data s
theorem eq_bytes (s t : ByteArray) : (s.toList == t.toList) = decide (s = t) := by
  rw [Bool.eq_iff_iff, beq_iff_eq, decide_eq_true_eq, toList_data', toList_data']
  exact ⟨fun h => ByteArray.ext (Array.toList_inj.1 h), fun h => by rw [h]⟩
set_option maxHeartbeats 4000000 in
set_option maxRecDepth 100000 in
/-- hasNothingElse (73). -/
theorem nothing_any (p : Pl) (m : Pm) (w : World) : Calls Tryz.prog 73 #[p.val m] w fun r w' => r = .returned (.bool (alikeB p (ndP p))) ∧ Below w.heap.size w w' := by
  have HND := hide (fun W => needP_any p m W)
  obtain ⟨R, hR⟩ : ∃ R, R = alikeB p (ndP p) := ⟨_, rfl⟩
  rw [← hR]
  have hb0 := below_alloc (Below.refl _ w) (p.box m)
  have HB := hide hb0
  have HE := hide (Elv.new w p m)
  have HL := hide (Elv.new w p m).load
  unfold Pl.box at HB HE HL
  generalize ndP p = q at *
  generalize ndM p m = m2 at *
  unfold alikeB at hR
  have HR := hide hR
  rw [Pl.val_open] at HND HL
  rw [Pl.val_open]
  clear hR hb0
  by_cases h1 : p.tab = q.tab
  case neg =>
    have e1 : (p.tab.toList == q.tab.toList) = false := by rw [eq_bytes]; exact decide_eq_false h1
    obtain rfl : R = false := by rw [unhide HR]; simp [h1]
    clear h1
    go_enter Tryz.func73, Tryz.ntmps73
    go_upto_region 2 with (first
      | (refine wpList_load_w ?_ 28 (.tmp 1) rfl _ (by simp [Act.eval]) _ (unhide HL) ?_; · simp [Region.wanted, yielded])
      | (go_at_call 105; refine (unhide HND _).mono ?_; rintro r w1 ⟨rfl, hb1⟩; rw [Pl.val_open]))
    have HB2 := hide (below_alloc (below_step (unhide HB) hb1) (q.box m2))
    have HQ := hide (Elv.new w1 q m2)
    have HP := hide (((unhide HE).later hb1).later (below_alloc (Below.refl _ w1) (q.box m2)))
    unfold Pl.box at HB2 HQ HP
    clear hb1 HB HE HL HND
    obtain ⟨wa, hwa⟩ : ∃ wa, wa = w1.alloc (.cells #[.int .i64 q.op, .string q.tab, .slice m2.aE q.ex.length m2.cE, .slice m2.aC q.cols.length m2.cC, .slice m2.aK q.keys.length m2.cK, .slice m2.aA q.aggs.length m2.cA, .int .i64 q.fn, .int .i64 q.col, .int .i64 q.n, .int .i64 q.off, .slice m2.aP q.args.length m2.cP] 28) := ⟨_, rfl⟩
    rw [← hwa] at HB2 HQ HP ⊢
    clear hwa
    simp only [List.append_eq, List.cons_append, List.nil_append]
    obtain ⟨-, a1, a2, a3, a4, a5, a6, a7, a8, a9, -⟩ := unhide HP
    obtain ⟨-, b1, b2, b3, b4, b5, b6, b7, b8, b9, -⟩ := unhide HQ
    simp only [Nat.zero_add] at a1 a2 a3 a4 a5 a6 a7 a8 a9 b1 b2 b3 b4 b5 b6 b7 b8 b9
    clear HP HQ
    go_wp2
    go_ret
    exact ⟨rfl, unhide HB2⟩
  have e1 : (p.tab.toList == q.tab.toList) = true := by rw [eq_bytes]; exact decide_eq_true h1
  by_cases h2 : p.ex.length = q.ex.length
  case neg =>
    have e2 : ((p.ex.length : Int) == (q.ex.length : Int)) = false := by rw [natbeq]; simpa using h2
    obtain rfl : R = false := by rw [unhide HR]; simp [h2]
    clear h2 h1
    go_enter Tryz.func73, Tryz.ntmps73
    go_upto_region 2 with (first
      | (refine wpList_load_w ?_ 28 (.tmp 1) rfl _ (by simp [Act.eval]) _ (unhide HL) ?_; · simp [Region.wanted, yielded])
      | (go_at_call 105; refine (unhide HND _).mono ?_; rintro r w1 ⟨rfl, hb1⟩; rw [Pl.val_open]))
    have HB2 := hide (below_alloc (below_step (unhide HB) hb1) (q.box m2))
    have HQ := hide (Elv.new w1 q m2)
    have HP := hide (((unhide HE).later hb1).later (below_alloc (Below.refl _ w1) (q.box m2)))
    unfold Pl.box at HB2 HQ HP
    clear hb1 HB HE HL HND
    obtain ⟨wa, hwa⟩ : ∃ wa, wa = w1.alloc (.cells #[.int .i64 q.op, .string q.tab, .slice m2.aE q.ex.length m2.cE, .slice m2.aC q.cols.length m2.cC, .slice m2.aK q.keys.length m2.cK, .slice m2.aA q.aggs.length m2.cA, .int .i64 q.fn, .int .i64 q.col, .int .i64 q.n, .int .i64 q.off, .slice m2.aP q.args.length m2.cP] 28) := ⟨_, rfl⟩
    rw [← hwa] at HB2 HQ HP ⊢
    clear hwa
    simp only [List.append_eq, List.cons_append, List.nil_append]
    obtain ⟨-, a1, a2, a3, a4, a5, a6, a7, a8, a9, -⟩ := unhide HP
    obtain ⟨-, b1, b2, b3, b4, b5, b6, b7, b8, b9, -⟩ := unhide HQ
    simp only [Nat.zero_add] at a1 a2 a3 a4 a5 a6 a7 a8 a9 b1 b2 b3 b4 b5 b6 b7 b8 b9
    clear HP HQ
    go_wp2
    go_ret
    exact ⟨rfl, unhide HB2⟩
  have e2 : ((p.ex.length : Int) == (q.ex.length : Int)) = true := by rw [natbeq]; rw [h2]; simp
  by_cases h3 : p.cols.length = q.cols.length
  case neg =>
    have e3 : ((p.cols.length : Int) == (q.cols.length : Int)) = false := by rw [natbeq]; simpa using h3
    obtain rfl : R = false := by rw [unhide HR]; simp [h3]
    clear h3 h1 h2
    go_enter Tryz.func73, Tryz.ntmps73
    go_upto_region 2 with (first
      | (refine wpList_load_w ?_ 28 (.tmp 1) rfl _ (by simp [Act.eval]) _ (unhide HL) ?_; · simp [Region.wanted, yielded])
      | (go_at_call 105; refine (unhide HND _).mono ?_; rintro r w1 ⟨rfl, hb1⟩; rw [Pl.val_open]))
    have HB2 := hide (below_alloc (below_step (unhide HB) hb1) (q.box m2))
    have HQ := hide (Elv.new w1 q m2)
    have HP := hide (((unhide HE).later hb1).later (below_alloc (Below.refl _ w1) (q.box m2)))
    unfold Pl.box at HB2 HQ HP
    clear hb1 HB HE HL HND
    obtain ⟨wa, hwa⟩ : ∃ wa, wa = w1.alloc (.cells #[.int .i64 q.op, .string q.tab, .slice m2.aE q.ex.length m2.cE, .slice m2.aC q.cols.length m2.cC, .slice m2.aK q.keys.length m2.cK, .slice m2.aA q.aggs.length m2.cA, .int .i64 q.fn, .int .i64 q.col, .int .i64 q.n, .int .i64 q.off, .slice m2.aP q.args.length m2.cP] 28) := ⟨_, rfl⟩
    rw [← hwa] at HB2 HQ HP ⊢
    clear hwa
    simp only [List.append_eq, List.cons_append, List.nil_append]
    obtain ⟨-, a1, a2, a3, a4, a5, a6, a7, a8, a9, -⟩ := unhide HP
    obtain ⟨-, b1, b2, b3, b4, b5, b6, b7, b8, b9, -⟩ := unhide HQ
    simp only [Nat.zero_add] at a1 a2 a3 a4 a5 a6 a7 a8 a9 b1 b2 b3 b4 b5 b6 b7 b8 b9
    clear HP HQ
    go_wp2
    go_ret
    exact ⟨rfl, unhide HB2⟩
  have e3 : ((p.cols.length : Int) == (q.cols.length : Int)) = true := by rw [natbeq]; rw [h3]; simp
  by_cases h4 : p.keys.length = q.keys.length
  case neg =>
    have e4 : ((p.keys.length : Int) == (q.keys.length : Int)) = false := by rw [natbeq]; simpa using h4
    obtain rfl : R = false := by rw [unhide HR]; simp [h4]
    clear h4 h1 h2 h3
    go_enter Tryz.func73, Tryz.ntmps73
    go_upto_region 2 with (first
      | (refine wpList_load_w ?_ 28 (.tmp 1) rfl _ (by simp [Act.eval]) _ (unhide HL) ?_; · simp [Region.wanted, yielded])
      | (go_at_call 105; refine (unhide HND _).mono ?_; rintro r w1 ⟨rfl, hb1⟩; rw [Pl.val_open]))
    have HB2 := hide (below_alloc (below_step (unhide HB) hb1) (q.box m2))
    have HQ := hide (Elv.new w1 q m2)
    have HP := hide (((unhide HE).later hb1).later (below_alloc (Below.refl _ w1) (q.box m2)))
    unfold Pl.box at HB2 HQ HP
    clear hb1 HB HE HL HND
    obtain ⟨wa, hwa⟩ : ∃ wa, wa = w1.alloc (.cells #[.int .i64 q.op, .string q.tab, .slice m2.aE q.ex.length m2.cE, .slice m2.aC q.cols.length m2.cC, .slice m2.aK q.keys.length m2.cK, .slice m2.aA q.aggs.length m2.cA, .int .i64 q.fn, .int .i64 q.col, .int .i64 q.n, .int .i64 q.off, .slice m2.aP q.args.length m2.cP] 28) := ⟨_, rfl⟩
    rw [← hwa] at HB2 HQ HP ⊢
    clear hwa
    simp only [List.append_eq, List.cons_append, List.nil_append]
    obtain ⟨-, a1, a2, a3, a4, a5, a6, a7, a8, a9, -⟩ := unhide HP
    obtain ⟨-, b1, b2, b3, b4, b5, b6, b7, b8, b9, -⟩ := unhide HQ
    simp only [Nat.zero_add] at a1 a2 a3 a4 a5 a6 a7 a8 a9 b1 b2 b3 b4 b5 b6 b7 b8 b9
    clear HP HQ
    go_wp2
    go_ret
    exact ⟨rfl, unhide HB2⟩
  have e4 : ((p.keys.length : Int) == (q.keys.length : Int)) = true := by rw [natbeq]; rw [h4]; simp
  by_cases h5 : p.aggs.length = q.aggs.length
  case neg =>
    have e5 : ((p.aggs.length : Int) == (q.aggs.length : Int)) = false := by rw [natbeq]; simpa using h5
    obtain rfl : R = false := by rw [unhide HR]; simp [h5]
    clear h5 h1 h2 h3 h4
    go_enter Tryz.func73, Tryz.ntmps73
    go_upto_region 2 with (first
      | (refine wpList_load_w ?_ 28 (.tmp 1) rfl _ (by simp [Act.eval]) _ (unhide HL) ?_; · simp [Region.wanted, yielded])
      | (go_at_call 105; refine (unhide HND _).mono ?_; rintro r w1 ⟨rfl, hb1⟩; rw [Pl.val_open]))
    have HB2 := hide (below_alloc (below_step (unhide HB) hb1) (q.box m2))
    have HQ := hide (Elv.new w1 q m2)
    have HP := hide (((unhide HE).later hb1).later (below_alloc (Below.refl _ w1) (q.box m2)))
    unfold Pl.box at HB2 HQ HP
    clear hb1 HB HE HL HND
    obtain ⟨wa, hwa⟩ : ∃ wa, wa = w1.alloc (.cells #[.int .i64 q.op, .string q.tab, .slice m2.aE q.ex.length m2.cE, .slice m2.aC q.cols.length m2.cC, .slice m2.aK q.keys.length m2.cK, .slice m2.aA q.aggs.length m2.cA, .int .i64 q.fn, .int .i64 q.col, .int .i64 q.n, .int .i64 q.off, .slice m2.aP q.args.length m2.cP] 28) := ⟨_, rfl⟩
    rw [← hwa] at HB2 HQ HP ⊢
    clear hwa
    simp only [List.append_eq, List.cons_append, List.nil_append]
    obtain ⟨-, a1, a2, a3, a4, a5, a6, a7, a8, a9, -⟩ := unhide HP
    obtain ⟨-, b1, b2, b3, b4, b5, b6, b7, b8, b9, -⟩ := unhide HQ
    simp only [Nat.zero_add] at a1 a2 a3 a4 a5 a6 a7 a8 a9 b1 b2 b3 b4 b5 b6 b7 b8 b9
    clear HP HQ
    go_wp2
    go_ret
    exact ⟨rfl, unhide HB2⟩
  have e5 : ((p.aggs.length : Int) == (q.aggs.length : Int)) = true := by rw [natbeq]; rw [h5]; simp
  by_cases h6 : p.fn = q.fn
  case neg =>
    have e6 : (p.fn == q.fn) = false := by simpa using h6
    obtain rfl : R = false := by rw [unhide HR]; simp [h6]
    clear h6 h1 h2 h3 h4 h5
    go_enter Tryz.func73, Tryz.ntmps73
    go_upto_region 2 with (first
      | (refine wpList_load_w ?_ 28 (.tmp 1) rfl _ (by simp [Act.eval]) _ (unhide HL) ?_; · simp [Region.wanted, yielded])
      | (go_at_call 105; refine (unhide HND _).mono ?_; rintro r w1 ⟨rfl, hb1⟩; rw [Pl.val_open]))
    have HB2 := hide (below_alloc (below_step (unhide HB) hb1) (q.box m2))
    have HQ := hide (Elv.new w1 q m2)
    have HP := hide (((unhide HE).later hb1).later (below_alloc (Below.refl _ w1) (q.box m2)))
    unfold Pl.box at HB2 HQ HP
    clear hb1 HB HE HL HND
    obtain ⟨wa, hwa⟩ : ∃ wa, wa = w1.alloc (.cells #[.int .i64 q.op, .string q.tab, .slice m2.aE q.ex.length m2.cE, .slice m2.aC q.cols.length m2.cC, .slice m2.aK q.keys.length m2.cK, .slice m2.aA q.aggs.length m2.cA, .int .i64 q.fn, .int .i64 q.col, .int .i64 q.n, .int .i64 q.off, .slice m2.aP q.args.length m2.cP] 28) := ⟨_, rfl⟩
    rw [← hwa] at HB2 HQ HP ⊢
    clear hwa
    simp only [List.append_eq, List.cons_append, List.nil_append]
    obtain ⟨-, a1, a2, a3, a4, a5, a6, a7, a8, a9, -⟩ := unhide HP
    obtain ⟨-, b1, b2, b3, b4, b5, b6, b7, b8, b9, -⟩ := unhide HQ
    simp only [Nat.zero_add] at a1 a2 a3 a4 a5 a6 a7 a8 a9 b1 b2 b3 b4 b5 b6 b7 b8 b9
    clear HP HQ
    go_wp2
    go_ret
    exact ⟨rfl, unhide HB2⟩
  have e6 : (p.fn == q.fn) = true := by rw [h6]; simp
  by_cases h7 : p.col = q.col
  case neg =>
    have e7 : (p.col == q.col) = false := by simpa using h7
    obtain rfl : R = false := by rw [unhide HR]; simp [h7]
    clear h7 h1 h2 h3 h4 h5 h6
    go_enter Tryz.func73, Tryz.ntmps73
    go_upto_region 2 with (first
      | (refine wpList_load_w ?_ 28 (.tmp 1) rfl _ (by simp [Act.eval]) _ (unhide HL) ?_; · simp [Region.wanted, yielded])
      | (go_at_call 105; refine (unhide HND _).mono ?_; rintro r w1 ⟨rfl, hb1⟩; rw [Pl.val_open]))
    have HB2 := hide (below_alloc (below_step (unhide HB) hb1) (q.box m2))
    have HQ := hide (Elv.new w1 q m2)
    have HP := hide (((unhide HE).later hb1).later (below_alloc (Below.refl _ w1) (q.box m2)))
    unfold Pl.box at HB2 HQ HP
    clear hb1 HB HE HL HND
    obtain ⟨wa, hwa⟩ : ∃ wa, wa = w1.alloc (.cells #[.int .i64 q.op, .string q.tab, .slice m2.aE q.ex.length m2.cE, .slice m2.aC q.cols.length m2.cC, .slice m2.aK q.keys.length m2.cK, .slice m2.aA q.aggs.length m2.cA, .int .i64 q.fn, .int .i64 q.col, .int .i64 q.n, .int .i64 q.off, .slice m2.aP q.args.length m2.cP] 28) := ⟨_, rfl⟩
    rw [← hwa] at HB2 HQ HP ⊢
    clear hwa
    simp only [List.append_eq, List.cons_append, List.nil_append]
    obtain ⟨-, a1, a2, a3, a4, a5, a6, a7, a8, a9, -⟩ := unhide HP
    obtain ⟨-, b1, b2, b3, b4, b5, b6, b7, b8, b9, -⟩ := unhide HQ
    simp only [Nat.zero_add] at a1 a2 a3 a4 a5 a6 a7 a8 a9 b1 b2 b3 b4 b5 b6 b7 b8 b9
    clear HP HQ
    go_wp2
    go_ret
    exact ⟨rfl, unhide HB2⟩
  have e7 : (p.col == q.col) = true := by rw [h7]; simp
  by_cases h8 : p.n = q.n
  case neg =>
    have e8 : (p.n == q.n) = false := by simpa using h8
    obtain rfl : R = false := by rw [unhide HR]; simp [h8]
    clear h8 h1 h2 h3 h4 h5 h6 h7
    go_enter Tryz.func73, Tryz.ntmps73
    go_upto_region 2 with (first
      | (refine wpList_load_w ?_ 28 (.tmp 1) rfl _ (by simp [Act.eval]) _ (unhide HL) ?_; · simp [Region.wanted, yielded])
      | (go_at_call 105; refine (unhide HND _).mono ?_; rintro r w1 ⟨rfl, hb1⟩; rw [Pl.val_open]))
    have HB2 := hide (below_alloc (below_step (unhide HB) hb1) (q.box m2))
    have HQ := hide (Elv.new w1 q m2)
    have HP := hide (((unhide HE).later hb1).later (below_alloc (Below.refl _ w1) (q.box m2)))
    unfold Pl.box at HB2 HQ HP
    clear hb1 HB HE HL HND
    obtain ⟨wa, hwa⟩ : ∃ wa, wa = w1.alloc (.cells #[.int .i64 q.op, .string q.tab, .slice m2.aE q.ex.length m2.cE, .slice m2.aC q.cols.length m2.cC, .slice m2.aK q.keys.length m2.cK, .slice m2.aA q.aggs.length m2.cA, .int .i64 q.fn, .int .i64 q.col, .int .i64 q.n, .int .i64 q.off, .slice m2.aP q.args.length m2.cP] 28) := ⟨_, rfl⟩
    rw [← hwa] at HB2 HQ HP ⊢
    clear hwa
    simp only [List.append_eq, List.cons_append, List.nil_append]
    obtain ⟨-, a1, a2, a3, a4, a5, a6, a7, a8, a9, -⟩ := unhide HP
    obtain ⟨-, b1, b2, b3, b4, b5, b6, b7, b8, b9, -⟩ := unhide HQ
    simp only [Nat.zero_add] at a1 a2 a3 a4 a5 a6 a7 a8 a9 b1 b2 b3 b4 b5 b6 b7 b8 b9
    clear HP HQ
    go_wp2
    go_ret
    exact ⟨rfl, unhide HB2⟩
  have e8 : (p.n == q.n) = true := by rw [h8]; simp
  by_cases h9 : p.off = q.off
  case neg =>
    have e9 : (p.off == q.off) = false := by simpa using h9
    obtain rfl : R = false := by rw [unhide HR]; simp [h9]
    clear h9 h1 h2 h3 h4 h5 h6 h7 h8
    go_enter Tryz.func73, Tryz.ntmps73
    go_upto_region 2 with (first
      | (refine wpList_load_w ?_ 28 (.tmp 1) rfl _ (by simp [Act.eval]) _ (unhide HL) ?_; · simp [Region.wanted, yielded])
      | (go_at_call 105; refine (unhide HND _).mono ?_; rintro r w1 ⟨rfl, hb1⟩; rw [Pl.val_open]))
    have HB2 := hide (below_alloc (below_step (unhide HB) hb1) (q.box m2))
    have HQ := hide (Elv.new w1 q m2)
    have HP := hide (((unhide HE).later hb1).later (below_alloc (Below.refl _ w1) (q.box m2)))
    unfold Pl.box at HB2 HQ HP
    clear hb1 HB HE HL HND
    obtain ⟨wa, hwa⟩ : ∃ wa, wa = w1.alloc (.cells #[.int .i64 q.op, .string q.tab, .slice m2.aE q.ex.length m2.cE, .slice m2.aC q.cols.length m2.cC, .slice m2.aK q.keys.length m2.cK, .slice m2.aA q.aggs.length m2.cA, .int .i64 q.fn, .int .i64 q.col, .int .i64 q.n, .int .i64 q.off, .slice m2.aP q.args.length m2.cP] 28) := ⟨_, rfl⟩
    rw [← hwa] at HB2 HQ HP ⊢
    clear hwa
    simp only [List.append_eq, List.cons_append, List.nil_append]
    obtain ⟨-, a1, a2, a3, a4, a5, a6, a7, a8, a9, -⟩ := unhide HP
    obtain ⟨-, b1, b2, b3, b4, b5, b6, b7, b8, b9, -⟩ := unhide HQ
    simp only [Nat.zero_add] at a1 a2 a3 a4 a5 a6 a7 a8 a9 b1 b2 b3 b4 b5 b6 b7 b8 b9
    clear HP HQ
    go_wp2
    go_ret
    exact ⟨rfl, unhide HB2⟩
  have e9 : (p.off == q.off) = true := by rw [h9]; simp
  obtain rfl : R = true := by rw [unhide HR]; simp [h1, h2, h3, h4, h5, h6, h7, h8, h9]
  clear h1 h2 h3 h4 h5 h6 h7 h8 h9
  go_enter Tryz.func73, Tryz.ntmps73
  go_upto_region 2 with (first
    | (refine wpList_load_w ?_ 28 (.tmp 1) rfl _ (by simp [Act.eval]) _ (unhide HL) ?_; · simp [Region.wanted, yielded])
    | (go_at_call 105; refine (unhide HND _).mono ?_; rintro r w1 ⟨rfl, hb1⟩; rw [Pl.val_open]))
  have HB2 := hide (below_alloc (below_step (unhide HB) hb1) (q.box m2))
  have HQ := hide (Elv.new w1 q m2)
  have HP := hide (((unhide HE).later hb1).later (below_alloc (Below.refl _ w1) (q.box m2)))
  unfold Pl.box at HB2 HQ HP
  clear hb1 HB HE HL HND
  obtain ⟨wa, hwa⟩ : ∃ wa, wa = w1.alloc (.cells #[.int .i64 q.op, .string q.tab, .slice m2.aE q.ex.length m2.cE, .slice m2.aC q.cols.length m2.cC, .slice m2.aK q.keys.length m2.cK, .slice m2.aA q.aggs.length m2.cA, .int .i64 q.fn, .int .i64 q.col, .int .i64 q.n, .int .i64 q.off, .slice m2.aP q.args.length m2.cP] 28) := ⟨_, rfl⟩
  rw [← hwa] at HB2 HQ HP ⊢
  clear hwa
  simp only [List.append_eq, List.cons_append, List.nil_append]
  obtain ⟨-, a1, a2, a3, a4, a5, a6, a7, a8, a9, -⟩ := unhide HP
  obtain ⟨-, b1, b2, b3, b4, b5, b6, b7, b8, b9, -⟩ := unhide HQ
  simp only [Nat.zero_add] at a1 a2 a3 a4 a5 a6 a7 a8 a9 b1 b2 b3 b4 b5 b6 b7 b8 b9
  clear HP HQ
  go_wp2
  go_ret
  exact ⟨rfl, unhide HB2⟩
end Go.Proofs.YtcpndojkfngioaaGreat
