import Derived.Test.YtcpndojkfngioaaGreatLkJ
set_option linter.unusedSimpArgs false
set_option linter.unusedVariables false
namespace Go.Proofs.YtcpndojkfngioaaGreat
open Go.RowKit Go.Sort

set_option maxHeartbeats 4000000 in
set_option maxRecDepth 100000 in
/-- plan.Check (5). -/
theorem check5_any (ts : List Tb) (hft : ∀ t ∈ ts, t.fin) (htl : ts.length ≤ 1048576) (aT : Option Addr) (cT : Nat) (p : Pl) (hf : p.fin) (m : Pm) (w : World) (ha : PlM w p m) (hT : Tbs w aT ts) : Calls Tryz.prog 5 #[p.val m, .slice aT ts.length cT] w (ChQ (checkR p ts) w) := by
  obtain ⟨RR, hRR⟩ : ∃ RR, RR = checkR p ts := ⟨_, rfl⟩
  rw [← hRR]
  unfold checkR at hRR
  have hb0 := below_alloc (Below.refl _ w) (p.box m)
  have HE := hide (Elv.new w p m)
  have HB := hide hb0
  have HBT := hide (builtP_any p hf m (w.alloc (p.box m)) (ha.later hb0))
  have HSC := hide (fun (W : World) (hW : Below w.heap.size w W) => wellMade_any ts hft htl aT cT W (hT.later hW))
  have HCK := hide (fun (hw : wellB ts = true) (hb : bltP p = true) (W : World) (hW : Below w.heap.size w W) => looked_any ts hw hft htl aT cT p hf hb m W (ha.later hW) (hT.later hW))
  have HBL := hide (fun h => builtR_blt (p := p) h)
  have HRR := hide hRR
  rw [Pl.val_open] at HBT HCK ⊢
  unfold Pl.box at HE HB HBT
  clear hRR hb0 ha hf hft hT
  obtain ⟨wa, hwa⟩ : ∃ wa, wa = w.alloc (.cells #[.int .i64 p.op, .string p.tab, .slice m.aE p.ex.length m.cE, .slice m.aC p.cols.length m.cC, .slice m.aK p.keys.length m.cK, .slice m.aA p.aggs.length m.cA, .int .i64 p.fn, .int .i64 p.col, .int .i64 p.n, .int .i64 p.off, .slice m.aP p.args.length m.cP] 28) := ⟨_, rfl⟩
  rw [← hwa] at HE HB HBT
  have HWA := hide hwa
  have HL0 := hide (unhide HE).load
  rw [Pl.val_open] at HL0
  clear hwa
  generalize builtR p = br at *
  by_cases hbr : br = 0
  case neg =>
    have HRZ : Hid (RR = (br, [])) := by show _ = _; rw [unhide HRR, if_neg hbr]
    have bb : (br != 0) = true := by simpa using hbr
    clear HRR HCK HSC HBL hbr
    go_enter Tryz.func5, Tryz.ntmps5
    go_upto_region 1 with fail
    rw [← unhide HWA]
    go_wp2_with (first
      | (refine wpList_load_w ?_ 28 (.tmp 2) rfl _ (by simp [Act.eval]) _ (unhide HL0) ?_; · simp [Region.wanted, yielded])
      | (go_at_call 9; refine (unhide HBT).mono ?_; rintro r w1 ⟨rfl, hb1⟩))
    refine bodyPost_ret (v := .tuple #[.slice none 0 0, .int .i64 br]) (by simp [results, Tryz.results5, go_sem]) rfl ?_
    rw [unhide HRZ]
    exact ChQ.err (below_step (unhide HB) hb1)
  subst hbr
  have hbl := unhide HBL rfl
  cases hw : wellB ts
  case false =>
    have HRZ : Hid (RR = (1, [])) := by show _ = _; rw [unhide HRR, if_pos rfl, hw]; rfl
    rw [hw] at HSC
    clear HRR HCK HBL hw hbl
    go_enter Tryz.func5, Tryz.ntmps5
    go_upto_region 1 with fail
    rw [← unhide HWA]
    go_wp2_with (first
      | (refine wpList_load_w ?_ 28 (.tmp 2) rfl _ (by simp [Act.eval]) _ (unhide HL0) ?_; · simp [Region.wanted, yielded])
      | (go_at_call 9; refine (unhide HBT).mono ?_; rintro r w1 ⟨rfl, hb1⟩)
      | (go_at_call 15; refine (unhide HSC _ (below_step (unhide HB) hb1)).mono ?_; rintro r w2 ⟨rfl, hb2⟩))
    refine bodyPost_ret (v := .tuple #[.slice none 0 0, .int .i64 1]) (by simp [results, Tryz.results5, go_sem]) rfl ?_
    rw [unhide HRZ]
    exact ChQ.err (below_step (unhide HB) (below_step hb1 hb2))
  have HCK2 := hide (unhide HCK hw hbl)
  have HRQ : Hid (RR = ((chkP ts p).1, if (chkP ts p).1 = 0 then (chkP ts p).2 else [])) := by show _ = _; rw [unhide HRR, if_pos rfl, hw]; rfl
  rw [hw] at HSC
  clear HRR HCK HBL hw hbl
  generalize chkP ts p = cp at *
  obtain ⟨er, kk⟩ := cp
  by_cases hz : er = 0
  · subst hz
    have HRZ : Hid (RR = (0, kk)) := unhide HRQ
    clear HRQ
    go_enter Tryz.func5, Tryz.ntmps5
    go_upto_region 1 with fail
    rw [← unhide HWA]
    go_wp2_with (first
      | (refine wpList_load_w ?_ 28 (.tmp 2) rfl _ (by simp [Act.eval]) _ (unhide HL3) ?_; · simp [Region.wanted, yielded])
      | (refine wpList_load_w ?_ 28 (.tmp 2) rfl _ (by simp [Act.eval]) _ (unhide HL0) ?_; · simp [Region.wanted, yielded])
      | (go_at_call 9; refine (unhide HBT).mono ?_; rintro r w1 ⟨rfl, hb1⟩)
      | (go_at_call 15; refine (unhide HSC _ (below_step (unhide HB) hb1)).mono ?_; rintro r w2 ⟨rfl, hb2⟩; have HL3 := hide ((unhide HE).later (below_step hb1 hb2)).load; rw [Pl.val_open] at HL3)
      | (go_at_call 16; refine (unhide HCK2 _ (below_step (unhide HB) (below_step hb1 hb2))).mono ?_; rintro r w3 ⟨y, rfl, hok, hb3⟩; have HOKY := hide (hok rfl); have HB4 := hide (below_alloc (Below.refl _ w3) (.cells #[.int .i64 y.q.op, .string y.q.tab, .slice y.m.aE y.q.ex.length y.m.cE, .slice y.m.aC y.q.cols.length y.m.cC, .slice y.m.aK y.q.keys.length y.m.cK, .slice y.m.aA y.q.aggs.length y.m.cA, .int .i64 y.q.fn, .int .i64 y.q.col, .int .i64 y.q.n, .int .i64 y.q.off, .slice y.m.aP y.q.args.length y.m.cP, .string y.t.name, .slice y.tm.aC y.t.cols.length y.tm.cC, .slice y.tm.aR y.t.rows.length y.tm.cR, .slice y.k.1 y.k.2.2.length y.k.2.1, .slice y.na y.nl y.nc] 51)); clear hok; rw [Nv.open_]))
    refine bodyPost_ret (v := .tuple #[.slice y.k.1 y.k.2.2.length y.k.2.1, .int .i64 0]) (by simp [results, Tryz.results5, go_sem]) rfl ?_
    rw [unhide HRZ]
    refine ⟨y.k.1, y.k.2.1, by rw [(unhide HOKY).1], ?_, below_step (unhide HB) (below_step hb1 (below_step hb2 (below_step hb3 (unhide HB4))))⟩
    have hh := (unhide HOKY).2.ints
    rw [(unhide HOKY).1] at hh
    exact hh.later (unhide HB4)
  · have HRZ : Hid (RR = (er, [])) := by show _ = _; rw [unhide HRQ, if_neg hz]
    have bb : (er != 0) = true := by simpa using hz
    clear HRQ hz
    go_enter Tryz.func5, Tryz.ntmps5
    go_upto_region 1 with fail
    rw [← unhide HWA]
    go_wp2_with (first
      | (refine wpList_load_w ?_ 28 (.tmp 2) rfl _ (by simp [Act.eval]) _ (unhide HL3) ?_; · simp [Region.wanted, yielded])
      | (refine wpList_load_w ?_ 28 (.tmp 2) rfl _ (by simp [Act.eval]) _ (unhide HL0) ?_; · simp [Region.wanted, yielded])
      | (go_at_call 9; refine (unhide HBT).mono ?_; rintro r w1 ⟨rfl, hb1⟩)
      | (go_at_call 15; refine (unhide HSC _ (below_step (unhide HB) hb1)).mono ?_; rintro r w2 ⟨rfl, hb2⟩; have HL3 := hide ((unhide HE).later (below_step hb1 hb2)).load; rw [Pl.val_open] at HL3)
      | (go_at_call 16; refine (unhide HCK2 _ (below_step (unhide HB) (below_step hb1 hb2))).mono ?_; rintro r w3 ⟨y, rfl, hok, hb3⟩; have HB4 := hide (below_alloc (Below.refl _ w3) (.cells #[.int .i64 y.q.op, .string y.q.tab, .slice y.m.aE y.q.ex.length y.m.cE, .slice y.m.aC y.q.cols.length y.m.cC, .slice y.m.aK y.q.keys.length y.m.cK, .slice y.m.aA y.q.aggs.length y.m.cA, .int .i64 y.q.fn, .int .i64 y.q.col, .int .i64 y.q.n, .int .i64 y.q.off, .slice y.m.aP y.q.args.length y.m.cP, .string y.t.name, .slice y.tm.aC y.t.cols.length y.tm.cC, .slice y.tm.aR y.t.rows.length y.tm.cR, .slice y.k.1 y.k.2.2.length y.k.2.1, .slice y.na y.nl y.nc] 51)); clear hok; rw [Nv.open_]))
    refine bodyPost_ret (v := .tuple #[.slice none 0 0, .int .i64 er]) (by simp [results, Tryz.results5, go_sem]) rfl ?_
    rw [unhide HRZ]
    exact ChQ.err (below_step (unhide HB) (below_step hb1 (below_step hb2 (below_step hb3 (unhide HB4)))))
end Go.Proofs.YtcpndojkfngioaaGreat
set_option linter.unusedSimpArgs false
set_option linter.unusedVariables false
namespace Go.Proofs.YtcpndojkfngioaaGreat
open Go.RowKit Go.Sort

theorem checkR_len (p : Pl) (ts : List Tb) : (checkR p ts).2.length ≤ 32 := by
  unfold checkR
  split
  · rename_i hb
    split
    · rename_i hw
      show (if (chkP ts p).1 = 0 then (chkP ts p).2 else []).length ≤ 32
      split
      · rename_i h0
        exact (chkP_ok hw p.size p (Nat.le_refl _) (builtR_blt hb) h0).hi
      · simp
    · simp
  · simp
set_option maxHeartbeats 8000000 in
set_option maxRecDepth 100000 in
/-- PlanChecks (3). -/
theorem law_pc (ts : List Tb) (hft : ∀ t ∈ ts, t.fin) (htl : ts.length ≤ 1048576) (aT : Option Addr) (cT : Nat) (p : Pl) (hf : p.fin) (m : Pm) (w : World) (ha : PlM w p m) (hT : Tbs w aT ts) : Calls Tryz.prog 3 #[p.val m, .slice aT ts.length cT] w fun r w' => r = .returned (.bool true) ∧ Below w.heap.size w w' := by
  have hb0 := below_alloc (Below.refl _ w) (p.box m)
  have HE := hide (Elv.new w p m)
  have HB := hide hb0
  have HT4 := hide (tables_any ts hft htl aT cT (w.alloc (p.box m)) (hT.later hb0))
  have HC5 := hide (fun (W : World) (hW : Below w.heap.size w W) => check5_any ts hft htl aT cT p hf m W (ha.later hW) (hT.later hW))
  have HC6 := hide (fun (W : World) (hW : Below w.heap.size w W) => rcheck_any ts hft htl aT cT p hf m W (ha.later hW) (hT.later hW))
  have HG8 := hide (fun (W : World) (hW : Below w.heap.size w W) => good_any ts hft htl aT cT W (hT.later hW))
  have HB9 := hide (fun (W : World) (hW : Below w.heap.size w W) => builtP_any p hf m W (ha.later hW))
  have HB10 := hide (fun (W : World) (hW : Below w.heap.size w W) => rBuilt_any p hf m W (ha.later hW))
  have hcl := checkR_len p ts
  rw [Pl.val_open] at HC5 HC6 HB9 HB10 ⊢
  unfold Pl.box at HE HB HT4
  clear hb0 ha hf hft hT
  obtain ⟨wa, hwa⟩ : ∃ wa, wa = w.alloc (.cells #[.int .i64 p.op, .string p.tab, .slice m.aE p.ex.length m.cE, .slice m.aC p.cols.length m.cC, .slice m.aK p.keys.length m.cK, .slice m.aA p.aggs.length m.cA, .int .i64 p.fn, .int .i64 p.col, .int .i64 p.n, .int .i64 p.off, .slice m.aP p.args.length m.cP] 28) := ⟨_, rfl⟩
  rw [← hwa] at HE HB HT4
  have HWA := hide hwa
  clear hwa
  generalize builtR p = br at *
  generalize checkR p ts = RR at *
  obtain ⟨er, kk⟩ := RR
  simp only at hcl
  cases hg : goodB ts
  all_goals
    rw [hg] at HT4 HG8
    clear hg
    go_enter Tryz.func3, Tryz.ntmps3
    go_upto_region 1 with fail
    rw [← unhide HWA]
    go_upto_region 6 with (first
      | (refine wpList_load_w ?_ 28 (.tmp 2) rfl _ (by simp [Act.eval]) _ (unhide HL6) ?_; · simp [Region.wanted, yielded])
      | (refine wpList_load_w ?_ 28 (.tmp 2) rfl _ (by simp [Act.eval]) _ (unhide HL5) ?_; · simp [Region.wanted, yielded])
      | (go_at_call 6; refine (unhide HC6 _ (below_step (unhide HB) (unhide HB25))).mono ?_; rintro r w6 ⟨a6, c6, rfl, hk6, hb6⟩; have HK6 := hide hk6; have HB6 := hide hb6; clear hk6 hb6)
      | (go_at_call 5; refine (unhide HC5 _ (below_step (unhide HB) (unhide HB14))).mono ?_; rintro r w5 ⟨a5, c5, rfl, hk5, hb5⟩; have HK5 := hide hk5; have hb45 := below_step (unhide HB14) hb5; have HB25 := hide hb45; have HL6 := hide ((unhide HE).later hb45).load; rw [Pl.val_open] at HL6; clear hk5 hb5 hb45)
      | (go_at_call 4; refine (unhide HT4).mono ?_; rintro r w4 ⟨rfl, hb4⟩; have HB14 := hide hb4; have HL5 := hide ((unhide HE).later hb4).load; rw [Pl.val_open] at HL5; clear hb4))
    have hB6 := below_step (unhide HB25) (unhide HB6)
    have HW6 := hide (below_step (unhide HB) hB6)
    have HN11 := hide (fun (W : World) (hW : Below w6.heap.size w6 W) => sameNums_any kk kk a5 c5 a6 c6 W (by omega) (by omega) (((unhide HK5).later (unhide HB6)).later hW) ((unhide HK6).later hW))
    rw [decide_eq_true (rfl : kk = kk)] at HN11
    obtain ⟨c0, c1, c2, c3, c4, c5x, c6x, c7, c8, c9, c10⟩ := (unhide HE).later hB6
    simp only [Nat.zero_add] at c0 c1 c2 c3 c4 c5x c6x c7 c8 c9 c10
    have q0 := cell_regrown c0
    have q1 := cell_regrown c1
    have q2 := cell_regrown c2
    have q3 := cell_regrown c3
    have q4 := cell_regrown c4
    have q5 := cell_regrown c5x
    have q6 := cell_regrown c6x
    have q7 := cell_regrown c7
    have q8 := cell_regrown c8
    have q9 := cell_regrown c9
    have q10 := cell_regrown c10
    clear hB6 HC5 HC6 HT4
    refine wp_region_quiet_below (by kernel_rfl) (by kernel_rfl) ?_
    repeat (go_big_quiet_step ((first
      | (go_at_call 8; exact Calls.regrown_of (unhide HG8 _ (below_step (unhide HW6) (below_regrown _ _ _))))
      | (go_at_call 9; exact Calls.regrown_of (unhide HB9 _ (below_step (unhide HW6) (below_regrown _ _ _))))
      | (go_at_call 10; exact Calls.regrown_of (unhide HB10 _ (below_step (unhide HW6) (below_regrown _ _ _))))
      | (go_at_call 11; exact Calls.regrown_of (unhide HN11 _ (below_regrown _ _ _)))
      | (go_at_call 7; exact Calls.regrown_of (num_any _ _)))))
    refine wpQuiet_nil ?_
    intro w7 hw7
    have hB7 : Below w6.heap.size w6 w7 := by obtain ⟨p, rfl⟩ := hw7; exact below_regrown _ _ _
    clear hw7
    go_wp2
    go_ret
    exact ⟨by simp, below_step (unhide HW6) hB7⟩
end Go.Proofs.YtcpndojkfngioaaGreat
