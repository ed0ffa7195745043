import Derived.Test.YtcpndojkfngioaaGreatCkJ
set_option linter.unusedSimpArgs false
set_option linter.unusedVariables false
namespace Go.Proofs.YtcpndojkfngioaaGreat
open Go.RowKit Go.Sort

/-- What Check says of a plan over tables: an error, the kinds. -/
def checkR (p : Pl) (ts : List Tb) : Int × List Int := if builtR p = 0 then (if wellB ts then ((chkP ts p).1, if (chkP ts p).1 = 0 then (chkP ts p).2 else []) else (1, [])) else (builtR p, [])
/-- What Check answers. -/
def ChQ (R : Int × List Int) (w : World) (r : Ending) (w' : World) : Prop := ∃ a c, r = .returned (.tuple #[.slice a R.2.length c, .int .i64 R.1]) ∧ IntsAt w' a R.2 ∧ Below w.heap.size w w'
theorem ChQ.err {er : Int} {w w' : World} (hb : Below w.heap.size w w') : ChQ (er, []) w (.returned (.tuple #[.slice none 0 0, .int .i64 er])) w' := ⟨none, 0, rfl, .inl rfl, hb⟩
theorem builtR_blt {p : Pl} (h : builtR p = 0) : bltP p = true := by
  unfold builtR at h
  split at h
  · split at h
    · rename_i h2; exact h2
    · cases h
  · cases h
set_option maxHeartbeats 4000000 in
set_option maxRecDepth 100000 in
/-- tallyref.Check (6). -/
theorem rcheck_any (ts : List Tb) (hft : ∀ t ∈ ts, t.fin) (htl : ts.length ≤ 1048576) (aT : Option Addr) (cT : Nat) (p : Pl) (hf : p.fin) (m : Pm) (w : World) (ha : PlM w p m) (hT : Tbs w aT ts) : Calls Tryz.prog 6 #[p.val m, .slice aT ts.length cT] w (ChQ (checkR p ts) w) := by
  obtain ⟨RR, hRR⟩ : ∃ RR, RR = checkR p ts := ⟨_, rfl⟩
  rw [← hRR]
  unfold checkR at hRR
  have hb0 := below_alloc (Below.refl _ w) (p.box m)
  have HE := hide (Elv.new w p m)
  have HB := hide hb0
  have HBT := hide (rBuilt_any p hf m (w.alloc (p.box m)) (ha.later hb0))
  have HSC := hide (fun (W : World) (hW : Below w.heap.size w W) => schema_any ts hft htl aT cT W (hT.later hW))
  have HCK := hide (fun (hw : wellB ts = true) (hb : bltP p = true) (W : World) (hW : Below w.heap.size w W) => check_any ts hw hft htl aT cT p hf hb m W (ha.later hW) (hT.later hW))
  have HBL := hide (fun h => builtR_blt (p := p) h)
  have HRR := hide hRR
  rw [Pl.val_open] at HBT HCK ⊢
  unfold Pl.box at HE HB HBT
  clear hRR hb0 ha hf hft hT
  obtain ⟨wa, hwa⟩ : ∃ wa, wa = w.alloc (.cells #[.int .i64 p.op, .string p.tab, .slice m.aE p.ex.length m.cE, .slice m.aC p.cols.length m.cC, .slice m.aK p.keys.length m.cK, .slice m.aA p.aggs.length m.cA, .int .i64 p.fn, .int .i64 p.col, .int .i64 p.n, .int .i64 p.off, .slice m.aP p.args.length m.cP] 28) := ⟨_, rfl⟩
  rw [← hwa] at HE HB HBT
  have HWA := hide hwa
  have HL0 := hide (unhide HE).load
  rw [Pl.val_open] at HL0
  clear hwa
  generalize builtR p = br at *
  by_cases hbr : br = 0
  case neg =>
    have HRZ : Hid (RR = (br, [])) := by show _ = _; rw [unhide HRR, if_neg hbr]
    have bb : (br != 0) = true := by simpa using hbr
    clear HRR HCK HSC HBL hbr
    go_enter Tryz.func6, Tryz.ntmps6
    go_upto_region 1 with fail
    rw [← unhide HWA]
    go_wp2_with (first
      | (refine wpList_load_w ?_ 28 (.tmp 2) rfl _ (by simp [Act.eval]) _ (unhide HL0) ?_; · simp [Region.wanted, yielded])
      | (go_at_call 10; refine (unhide HBT).mono ?_; rintro r w1 ⟨rfl, hb1⟩))
    refine bodyPost_ret (v := .tuple #[.slice none 0 0, .int .i64 br]) (by simp [results, Tryz.results6, go_sem]) rfl ?_
    rw [unhide HRZ]
    exact ChQ.err (below_step (unhide HB) hb1)
  subst hbr
  have hbl := unhide HBL rfl
  cases hw : wellB ts
  case false =>
    have HRZ : Hid (RR = (1, [])) := by show _ = _; rw [unhide HRR, if_pos rfl, hw]; rfl
    rw [hw] at HSC
    clear HRR HCK HBL hw hbl
    go_enter Tryz.func6, Tryz.ntmps6
    go_upto_region 1 with fail
    rw [← unhide HWA]
    go_wp2_with (first
      | (refine wpList_load_w ?_ 28 (.tmp 2) rfl _ (by simp [Act.eval]) _ (unhide HL0) ?_; · simp [Region.wanted, yielded])
      | (go_at_call 10; refine (unhide HBT).mono ?_; rintro r w1 ⟨rfl, hb1⟩)
      | (go_at_call 12; refine (unhide HSC _ (below_step (unhide HB) hb1)).mono ?_; rintro r w2 ⟨rfl, hb2⟩))
    refine bodyPost_ret (v := .tuple #[.slice none 0 0, .int .i64 1]) (by simp [results, Tryz.results6, go_sem]) rfl ?_
    rw [unhide HRZ]
    exact ChQ.err (below_step (unhide HB) (below_step hb1 hb2))
  have HCK2 := hide (unhide HCK hw hbl)
  have HRQ : Hid (RR = ((chkP ts p).1, if (chkP ts p).1 = 0 then (chkP ts p).2 else [])) := by show _ = _; rw [unhide HRR, if_pos rfl, hw]; rfl
  rw [hw] at HSC
  clear HRR HCK HBL hw hbl
  generalize chkP ts p = cp at *
  obtain ⟨er, kk⟩ := cp
  by_cases hz : er = 0
  · subst hz
    have HRZ : Hid (RR = (0, kk)) := unhide HRQ
    clear HRQ
    go_enter Tryz.func6, Tryz.ntmps6
    go_upto_region 1 with fail
    rw [← unhide HWA]
    go_wp2_with (first
      | (refine wpList_load_w ?_ 28 (.tmp 2) rfl _ (by simp [Act.eval]) _ (unhide HL3) ?_; · simp [Region.wanted, yielded])
      | (refine wpList_load_w ?_ 28 (.tmp 2) rfl _ (by simp [Act.eval]) _ (unhide HL0) ?_; · simp [Region.wanted, yielded])
      | (go_at_call 10; refine (unhide HBT).mono ?_; rintro r w1 ⟨rfl, hb1⟩)
      | (go_at_call 12; refine (unhide HSC _ (below_step (unhide HB) hb1)).mono ?_; rintro r w2 ⟨rfl, hb2⟩; have HL3 := hide ((unhide HE).later (below_step hb1 hb2)).load; rw [Pl.val_open] at HL3)
      | (go_at_call 17; refine (unhide HCK2 _ (below_step (unhide HB) (below_step hb1 hb2))).mono ?_; rintro r w3 ⟨a3, c3, M, rfl, hok, hb3⟩; obtain ⟨rfl, hk3, _⟩ := hok rfl))
    refine bodyPost_ret (v := .tuple #[.slice a3 M.length c3, .int .i64 0]) (by simp [results, Tryz.results6, go_sem]) rfl ?_
    rw [unhide HRZ]
    exact ⟨a3, c3, rfl, hk3, below_step (unhide HB) (below_step hb1 (below_step hb2 hb3))⟩
  · have HRZ : Hid (RR = (er, [])) := by show _ = _; rw [unhide HRQ, if_neg hz]
    have bb : (er != 0) = true := by simpa using hz
    clear HRQ hz
    go_enter Tryz.func6, Tryz.ntmps6
    go_upto_region 1 with fail
    rw [← unhide HWA]
    go_wp2_with (first
      | (refine wpList_load_w ?_ 28 (.tmp 2) rfl _ (by simp [Act.eval]) _ (unhide HL3) ?_; · simp [Region.wanted, yielded])
      | (refine wpList_load_w ?_ 28 (.tmp 2) rfl _ (by simp [Act.eval]) _ (unhide HL0) ?_; · simp [Region.wanted, yielded])
      | (go_at_call 10; refine (unhide HBT).mono ?_; rintro r w1 ⟨rfl, hb1⟩)
      | (go_at_call 12; refine (unhide HSC _ (below_step (unhide HB) hb1)).mono ?_; rintro r w2 ⟨rfl, hb2⟩; have HL3 := hide ((unhide HE).later (below_step hb1 hb2)).load; rw [Pl.val_open] at HL3)
      | (go_at_call 17; refine (unhide HCK2 _ (below_step (unhide HB) (below_step hb1 hb2))).mono ?_; rintro r w3 ⟨a3, c3, M, rfl, hok, hb3⟩))
    refine bodyPost_ret (v := .tuple #[.slice none 0 0, .int .i64 er]) (by simp [results, Tryz.results6, go_sem]) rfl ?_
    rw [unhide HRZ]
    exact ChQ.err (below_step (unhide HB) (below_step hb1 (below_step hb2 hb3)))
end Go.Proofs.YtcpndojkfngioaaGreat
