import Derived.Test.YtcpndojkfngioaaGreatPlU
import Derived.Deep.CutBlock
set_option linter.unusedSimpArgs false
set_option linter.unusedVariables false
namespace Go.Proofs.YtcpndojkfngioaaGreat
open Go.RowKit Go.Sort

set_option maxHeartbeats 8000000 in
set_option maxRecDepth 100000 in
theorem rbltP_step (p : Pl) (hf : p.fin) (m : Pm) (w : World) (ha : PlM w p m)
    (IH : ∀ (i : Nat) x, p.args[i]? = some x → ∀ m' W, PlM W x m' → Calls Tryz.prog 23 #[x.val m'] W fun r w' => r = .returned (.bool (bltP x)) ∧ Below W.heap.size W w') :
    Calls Tryz.prog 23 #[p.val m] w fun r w' => r = .returned (.bool (bltP p)) ∧ Below w.heap.size w w' := by
  obtain ⟨⟨f1, f2, f3, f4, f5, f6, f7, fc, fk, fa⟩, hfx, _⟩ := Pl.fin_open hf
  obtain ⟨R, hR⟩ : ∃ R, R = bltP p := ⟨_, rfl⟩
  rw [← hR]
  rw [bltP_eq] at hR
  have hb0 := below_alloc (Below.refl _ w) (p.box m)
  have HE := hide (Elv.new w p m)
  have HB := hide hb0
  have HA := hide (ha.later hb0)
  have HF := hide hf
  have HFX := hide hfx
  have HIH := hide IH
  have HR := hide hR
  rw [Pl.val_open]
  unfold Pl.box at HE HB HA
  clear hR hb0 ha hf hfx IH fc fk fa
  obtain ⟨wa, hwa⟩ : ∃ wa, wa = w.alloc (.cells #[.int .i64 p.op, .string p.tab, .slice m.aE p.ex.length m.cE, .slice m.aC p.cols.length m.cC, .slice m.aK p.keys.length m.cK, .slice m.aA p.aggs.length m.cA, .int .i64 p.fn, .int .i64 p.col, .int .i64 p.n, .int .i64 p.off, .slice m.aP p.args.length m.cP] 28) := ⟨_, rfl⟩
  rw [← hwa] at HE HB HA
  have HWA := hide hwa
  have c10 := (unhide HE).c10
  simp only [Nat.zero_add] at c10
  clear hwa
  go_enter Tryz.func23, Tryz.ntmps23
  go_upto_region 1 with fail
  rw [← unhide HWA]
  clear HWA
  go_wp2_with fail
  go_loopw [13] (fun i wr => ∃ k : Nat, k ≤ p.args.length ∧ i = .int .i64 (k : Int) ∧ Hid ((p.args.take k).any (fun x => !bltP x) = false) ∧ Hid (Below wa.heap.size wa wr)) (fun i _ => p.args.length - (intOf i).toNat)
  case atStart => exact ⟨0, Nat.zero_le _, rfl, by show _ = _; rfl, Below.refl _ _⟩
  case round =>
    clear c10
    obtain ⟨k, hk, rfl, HM, HBL⟩ := hrel
    by_cases hlt : k < p.args.length
    · have h9 : (k : Int) < (p.args.length : Int) := by omega
      obtain ⟨x, hx⟩ : ∃ x, p.args[k]? = some x := ⟨_, List.getElem?_eq_getElem hlt⟩
      obtain ⟨vb, vo, ea, hat⟩ := Pl.all_get (Pl.all_later _ (unhide HA).p (unhide HBL)) hx
      obtain ⟨m', hel, h4, hal⟩ := Pl.at_open hat
      have hba := below_alloc (Below.refl _ wr) (x.box m')
      have HB2 := hide (below_step (unhide HBL) hba)
      have HLD := hide hel.load
      have HL2 := hide (Elv.new wr x m').load
      have HC := hide (unhide HIH k x hx m' (wr.alloc (x.box m')) ((PlM.mk h4 hal).later hba))
      rw [Pl.val_open] at HLD HL2 HC
      unfold Pl.box at HC HB2 HL2
      rw [ea]
      cases hv : bltP x
      · have HZ : Hid (R = false) := by show _ = _; rw [unhide HR, any_mem (p := fun x => !bltP x) hx (by simp [hv])]; simp
        rw [hv] at HC
        clear HM hx hat hal hba hel h4 HBL hv
        go_wp2_with (first
          | (refine wpList_load_w ?_ 28 (.tmp 15) rfl _ (by simp [Act.eval]) _ (unhide HLD) ?_; · simp [Region.wanted, yielded])
          | (refine wpList_load_w ?_ 28 (.tmp 4) rfl _ (by simp [Act.eval]) _ (unhide HL2) ?_; · simp [Region.wanted, yielded])
          | (go_at_call 23; refine (unhide HC).mono ?_; rintro r w3 ⟨rfl, hb3⟩))
        exact bodyPost_ret (v := .bool false) (by simp [results, Tryz.results23, go_sem]) rfl ⟨by rw [unhide HZ], below_step (unhide HB) (below_step (unhide HB2) hb3)⟩
      · have HM2 : Hid ((p.args.take (k + 1)).any (fun x => !bltP x) = false) := any_snoc hx (unhide HM) (by simp [hv])
        rw [hv] at HC
        clear HM hx hat hal hba hel h4 HBL hv
        go_wp2_with (first
          | (refine wpList_load_w ?_ 28 (.tmp 15) rfl _ (by simp [Act.eval]) _ (unhide HLD) ?_; · simp [Region.wanted, yielded])
          | (refine wpList_load_w ?_ 28 (.tmp 4) rfl _ (by simp [Act.eval]) _ (unhide HL2) ?_; · simp [Region.wanted, yielded])
          | (go_at_call 23; refine (unhide HC).mono ?_; rintro r w3 ⟨rfl, hb3⟩))
        exact ⟨⟨k + 1, by omega, by go_num, unhide HM2, below_step (unhide HB2) hb3⟩, by simp [intOf]; omega⟩
    · have h9 : ¬ (k : Int) < (p.args.length : Int) := by omega
      have HR2 : Hid (R = (soundP p && !p.ex.any noNeat)) := by
        have h1 := unhide HM
        rw [List.take_of_length_le (by omega)] at h1
        show _ = _
        rw [unhide HR, h1]; simp
      have HB1 := hide (below_step (unhide HB) (unhide HBL))
      have HE1 := hide ((unhide HE).later (unhide HBL))
      have HA1 := hide ((unhide HA).later (unhide HBL))
      have c2 := (unhide HE1).c2
      simp only [Nat.zero_add] at c2
      clear HM HR HBL HB HE HA HIH hlt hk
      obtain ⟨wb, hwb⟩ : ∃ wb, wb = wr := ⟨_, rfl⟩
      subst hwb
      go_wp2_with fail
      go_loopw [24] (fun i wr => ∃ k : Nat, k ≤ p.ex.length ∧ i = .int .i64 (k : Int) ∧ Hid ((p.ex.take k).any noNeat = false) ∧ Hid (Below wb.heap.size wb wr)) (fun i _ => p.ex.length - (intOf i).toNat)
      case atStart => exact ⟨0, Nat.zero_le _, rfl, by show _ = _; rfl, Below.refl _ _⟩
      case round =>
        clear c2 h9
        obtain ⟨k, hk, rfl, HM, HBL⟩ := hrel
        by_cases hlt : k < p.ex.length
        · have h9 : (k : Int) < (p.ex.length : Int) := by omega
          obtain ⟨x, hx⟩ : ∃ x, p.ex[k]? = some x := ⟨_, List.getElem?_eq_getElem hlt⟩
          obtain ⟨vb, vo, ea, hat⟩ := Ex.all_get (Ex.all_later _ (unhide HA1).o.e (unhide HBL)) hx
          obtain ⟨a', c', ⟨d0, d1, d2, d3, d4, d5⟩, hal⟩ := Ex.at_open hat
          have HC := hide (rneat_any x (Ex.fins_mem (unhide HFX) (List.mem_of_getElem? hx)) a' c' (wr.alloc (.cells #[.int .i64 x.op, .int .i64 x.n, .int .i64 x.v.k, .int .i64 x.v.n, .string x.v.s, .slice a' x.args.length c'] 74)) (Ex.all_later _ hal (below_alloc (Below.refl _ _) _)))
          have HB2 := hide (below_alloc (unhide HBL) (.cells #[.int .i64 x.op, .int .i64 x.n, .int .i64 x.v.k, .int .i64 x.v.n, .string x.v.s, .slice a' x.args.length c'] 74))
          rw [Ex.val_open] at HC
          rw [ea]
          cases hv : noNeat x
          · have HM2 : Hid ((p.ex.take (k + 1)).any noNeat = false) := any_snoc hx (unhide HM) hv
            rw [hv] at HC
            clear HM hx hat hal HBL hv
            go_wp2_with (go_at_call 49; refine (unhide HC).mono ?_; rintro r w3 ⟨rfl, hb3⟩)
            exact ⟨⟨k + 1, by omega, by go_num, unhide HM2, below_step (unhide HB2) hb3⟩, by simp [intOf]; omega⟩
          · have HZ : Hid (R = false) := by show _ = _; rw [unhide HR2, any_mem hx hv]; simp
            rw [hv] at HC
            clear HM hx hat hal HBL hv
            go_wp2_with (go_at_call 49; refine (unhide HC).mono ?_; rintro r w3 ⟨rfl, hb3⟩)
            exact bodyPost_ret (v := .bool false) (by simp [results, Tryz.results23, go_sem]) rfl ⟨by rw [unhide HZ], below_step (unhide HB1) (below_step (unhide HB2) hb3)⟩
        · have h9 : ¬ (k : Int) < (p.ex.length : Int) := by omega
          have HRS : Hid (R = soundP p) := by
            have h1 := unhide HM
            rw [List.take_of_length_le (by omega)] at h1
            show _ = _
            rw [unhide HR2, h1]; simp
          have hbd := below_step (unhide HBL) (below_alloc (Below.refl _ wr) (p.box m))
          have HL := hide ((unhide HE1).later (unhide HBL)).load
          have HP := hide ((unhide HE1).later hbd)
          have HQ := hide (Cpy.new wr p m)
          have HBD := hide (below_step (unhide HB1) hbd)
          have HO := hide ((unhide HA1).later hbd).o
          have HNE : Hid (w.heap.size ≠ wr.heap.size) := by
            have h1 := World.block_lt_of_cell? _ _ ((unhide HE1).later (unhide HBL)).c0
            show _ ≠ _
            intro h2
            rw [← h2] at h1
            exact Nat.lt_irrefl _ h1
          have HLT : Hid (w.heap.size ≤ wr.heap.size) := Nat.le_of_lt (World.block_lt_of_cell? _ _ ((unhide HE1).later (unhide HBL)).c0)
          rw [Pl.val_open] at HL
          unfold Pl.box at HP HQ HBD HO
          clear HM HR2 HBL HB1 HE1 HA1 HFX hlt hk hbd
          obtain ⟨wd, hwd⟩ : ∃ wd, wd = wr.alloc (.cells #[.int .i64 p.op, .string p.tab, .slice m.aE p.ex.length m.cE, .slice m.aC p.cols.length m.cC, .slice m.aK p.keys.length m.cK, .slice m.aA p.aggs.length m.cA, .int .i64 p.fn, .int .i64 p.col, .int .i64 p.n, .int .i64 p.off, .slice m.aP p.args.length m.cP] 28) := ⟨_, rfl⟩
          rw [← hwd] at HP HQ HBD HO
          have HWD := hide hwd
          clear hwd
          go_upto_region 15 with (refine wpList_load_w ?_ 28 (.tmp 1) rfl _ (by simp [Act.eval]) _ (unhide HL) ?_; · simp [Region.wanted, yielded])
          rw [← unhide HWD]
          clear HWD HL
          have HLE : Hid (w.heap.size ≤ wr.heap.size) := (unhide HLT)
          generalize wr.heap.size = qb at *
          have c0 := (unhide HP).c0
          go_upto_block 4 with fail
          go_cut [8, 9] (fun s8 s9 wx => ∃ (A E : Int) (q : Pl) (mq : Pm), s8 = .int .i64 A ∧ s9 = .int .i64 E ∧ Hid (Elv wx w.heap.size 0 p m) ∧ Hid (Elv wx qb 0 q mq) ∧ Hid (Below w.heap.size w wx) ∧ Hid (soundP p = finB p A E q.tab q.cols.length q.keys.length q.aggs.length q.fn q.col q.n q.off))
          case first =>
            clear c0
            by_cases o1 : p.op = 1
            · have e1 : (p.op == 1) = true := by rw [o1]; rfl
              have HN1 := hide (rname_any p.tab (by omega) wd)
              have c1 := (unhide HP).c1
              simp only [Nat.zero_add] at c1
              cases hn : nameB p.tab
              · have HZ : Hid (R = false) := by show _ = _; rw [unhide HRS]; exact sound_not (by unfold needsB; rw [o1]; exact hn)
                rw [hn] at HN1
                clear hn HRS
                clear o1
                go_wp2_with (go_at_call 24; refine (unhide HN1).mono ?_; rintro r w3 ⟨rfl, hb3⟩)
                exact bodyPost_ret (v := .bool false) (by simp [results, Tryz.results23, go_sem]) rfl ⟨by rw [unhide HZ], below_step (unhide HBD) hb3⟩
              · have HN : needsB p = true := by unfold needsB; rw [o1]; exact hn
                have HFI := hide (fin1 o1 HN)
                rw [hn] at HN1
                clear hn HN
                clear o1
                go_wp2_with (go_at_call 24; refine (unhide HN1).mono ?_; rintro r w3 ⟨rfl, hb3⟩; have HQ3 := hide ((unhide HQ).later hb3); have k1 := (unhide HQ3).e.c1; have z1 := (unhide HQ3).f1; simp only [Nat.zero_add] at k1)
                go_meet
                exact ⟨0, 0, _, _, rfl, rfl, ((unhide HP).later hb3).put (unhide HNE) _, (unhide HQ3).put_tab.e, (below_step (unhide HBD) hb3).setCell (by show _ ≤ _; exact unhide HLE) _, unhide HFI⟩
            have e1 : (p.op == 1) = false := by simpa using o1
            by_cases o2 : p.op = 2
            · have e2 : (p.op == 2) = true := by rw [o2]; rfl
              have HFI := hide (fin2 o2)
              clear o2
              go_wp2_with fail
              go_meet
              exact ⟨1, 1, p, m, rfl, rfl, unhide HP, (unhide HQ).e, unhide HBD, unhide HFI⟩
            have e2 : (p.op == 2) = false := by simpa using o2
            by_cases o3 : p.op = 3
            · have e3 : (p.op == 3) = true := by rw [o3]; rfl
              have c2 := (unhide HP).c2
              simp only [Nat.zero_add] at c2
              by_cases g1 : p.ex.length < 1
              · have HZ : Hid (R = false) := by show _ = _; rw [unhide HRS]; exact sound_not (by unfold needsB; rw [o3]; show (decide (1 ≤ p.ex.length) && decide (p.ex.length ≤ 32)) = false; rw [decide_eq_false (by omega)]; rfl)
                have g2 : (p.ex.length : Int) < 1 := by omega
                clear HRS
                clear o3
                go_wp2_with fail
                exact bodyPost_ret (v := .bool false) (by simp [results, Tryz.results23, go_sem]) rfl ⟨by rw [unhide HZ], unhide HBD⟩
              by_cases g3 : 32 < p.ex.length
              · have HZ : Hid (R = false) := by show _ = _; rw [unhide HRS]; exact sound_not (by unfold needsB; rw [o3]; show (decide (1 ≤ p.ex.length) && decide (p.ex.length ≤ 32)) = false; rw [decide_eq_false (by omega : ¬ p.ex.length ≤ 32), Bool.and_false])
                have g2 : ¬ (p.ex.length : Int) < 1 := by omega
                have g4 : (32 : Int) < (p.ex.length : Int) := by omega
                clear HRS
                clear o3
                go_wp2_with fail
                exact bodyPost_ret (v := .bool false) (by simp [results, Tryz.results23, go_sem]) rfl ⟨by rw [unhide HZ], unhide HBD⟩
              have HN : needsB p = true := by unfold needsB; rw [o3]; show (decide (1 ≤ p.ex.length) && decide (p.ex.length ≤ 32)) = true; rw [decide_eq_true (by omega), decide_eq_true (by omega)]; rfl
              have HFI := hide (fin3 o3 HN)
              have g2 : ¬ (p.ex.length : Int) < 1 := by omega
              have g4 : ¬ (32 : Int) < (p.ex.length : Int) := by omega
              clear HN
              clear o3
              go_wp2_with fail
              go_meet
              exact ⟨1, (p.ex.length : Int), p, m, rfl, rfl, unhide HP, (unhide HQ).e, unhide HBD, unhide HFI⟩
            have e3 : (p.op == 3) = false := by simpa using o3
            by_cases o4 : p.op = 4
            · have e4 : (p.op == 4) = true := by rw [o4]; rfl
              have HFI := hide (fin4 o4)
              clear o4
              go_wp2_with fail
              go_meet
              exact ⟨2, 1, p, m, rfl, rfl, unhide HP, (unhide HQ).e, unhide HBD, unhide HFI⟩
            have e4 : (p.op == 4) = false := by simpa using o4
            by_cases o5 : p.op = 5
            · have e5 : (p.op == 5) = true := by rw [o5]; rfl
              have HFI := hide (fin5 o5)
              clear o5
              go_wp2_with fail
              go_meet
              exact ⟨2, 1, p, m, rfl, rfl, unhide HP, (unhide HQ).e, unhide HBD, unhide HFI⟩
            have e5 : (p.op == 5) = false := by simpa using o5
            by_cases o6 : p.op = 6
            · have e6 : (p.op == 6) = true := by rw [o6]; rfl
              have HL := hide (low_any p.cols m.aC m.cC wd (by omega) (unhide HO).c)
              have HU := hide (fun (W : World) (hW : Below wd.heap.size wd W) => unlikeR_any p.cols m.aC m.cC W (by omega) (unhide HO).n ((unhide HO).c.later hW))
              have HG := hide (fun (W : World) (hW : Below wd.heap.size wd W) => aggs_any p.aggs m.aA m.cA W (by omega) ((unhide HO).a.later hW))
              have c3 := (unhide HP).c3
              have c5 := (unhide HP).c5
              simp only [Nat.zero_add] at c3 c5
              by_cases g1 : p.cols.length + p.aggs.length < 1
              · have HZ : Hid (R = false) := by show _ = _; rw [unhide HRS]; exact sound_not (by unfold needsB; rw [o6]; show (decide (1 ≤ p.cols.length + p.aggs.length) && colsB p.cols && !p.aggs.any noAgg) = false; rw [decide_eq_false (by omega)]; rfl)
                have g2 : (p.cols.length : Int) + (p.aggs.length : Int) < 1 := by omega
                clear HRS
                clear o6
                go_wp2_with fail
                exact bodyPost_ret (v := .bool false) (by simp [results, Tryz.results23, go_sem]) rfl ⟨by rw [unhide HZ], unhide HBD⟩
              have g2 : ¬ (p.cols.length : Int) + (p.aggs.length : Int) < 1 := by omega
              cases hl : p.cols.any (fun x => decide (x < 0))
              case true =>
                have HZ : Hid (R = false) := by show _ = _; rw [unhide HRS]; exact sound_not (by unfold needsB; rw [o6]; show (decide (1 ≤ p.cols.length + p.aggs.length) && colsB p.cols && !p.aggs.any noAgg) = false; unfold colsB; rw [hl]; simp)
                rw [hl] at HL
                clear HRS hl
                clear o6
                go_wp2_with (first
                  | (go_at_call 50; refine (unhide HL).mono ?_; rintro r w3 ⟨rfl, hb3⟩; have x3 := ((unhide HP).later hb3).c3; simp only [Nat.zero_add] at x3; have HU3 := hide (unhide HU _ hb3))
                  | (go_at_call 51; refine (unhide HU3).mono ?_; rintro r w4 ⟨rfl, hb4⟩; have x5 := ((unhide HP).later (below_step hb3 hb4)).c5; simp only [Nat.zero_add] at x5; have HG4 := hide (unhide HG _ (below_step hb3 hb4)))
                  | (go_at_call 52; refine (unhide HG4).mono ?_; rintro r w5 ⟨rfl, hb5⟩; have HQ3 := hide ((unhide HQ).later (below_step (below_step hb3 hb4) hb5)); obtain ⟨⟨-, k1, -, k3, k4, k5, k6, k7, k8, k9, -⟩, z1, z3, z4, z5, z6, z7, z8, z9⟩ := unhide HQ3; simp only [Nat.zero_add] at k1 k3 k4 k5 k6 k7 k8 k9))
                exact bodyPost_ret (v := .bool false) (by simp [results, Tryz.results23, go_sem]) rfl ⟨by rw [unhide HZ], below_step (unhide HBD) hb3⟩
              cases hu : decide p.cols.Nodup
              case false =>
                have HZ : Hid (R = false) := by show _ = _; rw [unhide HRS]; exact sound_not (by unfold needsB; rw [o6]; show (decide (1 ≤ p.cols.length + p.aggs.length) && colsB p.cols && !p.aggs.any noAgg) = false; unfold colsB; rw [hu]; simp)
                rw [hl] at HL
                rw [hu] at HU
                clear HRS hl hu
                clear o6
                go_wp2_with (first
                  | (go_at_call 50; refine (unhide HL).mono ?_; rintro r w3 ⟨rfl, hb3⟩; have x3 := ((unhide HP).later hb3).c3; simp only [Nat.zero_add] at x3; have HU3 := hide (unhide HU _ hb3))
                  | (go_at_call 51; refine (unhide HU3).mono ?_; rintro r w4 ⟨rfl, hb4⟩; have x5 := ((unhide HP).later (below_step hb3 hb4)).c5; simp only [Nat.zero_add] at x5; have HG4 := hide (unhide HG _ (below_step hb3 hb4)))
                  | (go_at_call 52; refine (unhide HG4).mono ?_; rintro r w5 ⟨rfl, hb5⟩; have HQ3 := hide ((unhide HQ).later (below_step (below_step hb3 hb4) hb5)); obtain ⟨⟨-, k1, -, k3, k4, k5, k6, k7, k8, k9, -⟩, z1, z3, z4, z5, z6, z7, z8, z9⟩ := unhide HQ3; simp only [Nat.zero_add] at k1 k3 k4 k5 k6 k7 k8 k9))
                exact bodyPost_ret (v := .bool false) (by simp [results, Tryz.results23, go_sem]) rfl ⟨by rw [unhide HZ], below_step (unhide HBD) (below_step hb3 hb4)⟩
              cases hg : p.aggs.any noAgg
              case true =>
                have HZ : Hid (R = false) := by show _ = _; rw [unhide HRS]; exact sound_not (by unfold needsB; rw [o6]; show (decide (1 ≤ p.cols.length + p.aggs.length) && colsB p.cols && !p.aggs.any noAgg) = false; rw [hg]; simp)
                rw [hl] at HL
                rw [hu] at HU
                rw [hg] at HG
                clear HRS hl hu hg
                clear o6
                go_wp2_with (first
                  | (go_at_call 50; refine (unhide HL).mono ?_; rintro r w3 ⟨rfl, hb3⟩; have x3 := ((unhide HP).later hb3).c3; simp only [Nat.zero_add] at x3; have HU3 := hide (unhide HU _ hb3))
                  | (go_at_call 51; refine (unhide HU3).mono ?_; rintro r w4 ⟨rfl, hb4⟩; have x5 := ((unhide HP).later (below_step hb3 hb4)).c5; simp only [Nat.zero_add] at x5; have HG4 := hide (unhide HG _ (below_step hb3 hb4)))
                  | (go_at_call 52; refine (unhide HG4).mono ?_; rintro r w5 ⟨rfl, hb5⟩; have HQ3 := hide ((unhide HQ).later (below_step (below_step hb3 hb4) hb5)); obtain ⟨⟨-, k1, -, k3, k4, k5, k6, k7, k8, k9, -⟩, z1, z3, z4, z5, z6, z7, z8, z9⟩ := unhide HQ3; simp only [Nat.zero_add] at k1 k3 k4 k5 k6 k7 k8 k9))
                exact bodyPost_ret (v := .bool false) (by simp [results, Tryz.results23, go_sem]) rfl ⟨by rw [unhide HZ], below_step (unhide HBD) (below_step (below_step hb3 hb4) hb5)⟩
              have HN : needsB p = true := by unfold needsB; rw [o6]; show (decide (1 ≤ p.cols.length + p.aggs.length) && colsB p.cols && !p.aggs.any noAgg) = true; unfold colsB; rw [hl, hu, hg, decide_eq_true (by omega)]; rfl
              have HFI := hide (fin6 o6 HN)
              rw [hl] at HL
              rw [hu] at HU
              rw [hg] at HG
              clear hl hu hg HN
              clear o6
              go_wp2_with (first
                  | (go_at_call 50; refine (unhide HL).mono ?_; rintro r w3 ⟨rfl, hb3⟩; have x3 := ((unhide HP).later hb3).c3; simp only [Nat.zero_add] at x3; have HU3 := hide (unhide HU _ hb3))
                  | (go_at_call 51; refine (unhide HU3).mono ?_; rintro r w4 ⟨rfl, hb4⟩; have x5 := ((unhide HP).later (below_step hb3 hb4)).c5; simp only [Nat.zero_add] at x5; have HG4 := hide (unhide HG _ (below_step hb3 hb4)))
                  | (go_at_call 52; refine (unhide HG4).mono ?_; rintro r w5 ⟨rfl, hb5⟩; have HQ3 := hide ((unhide HQ).later (below_step (below_step hb3 hb4) hb5)); obtain ⟨⟨-, k1, -, k3, k4, k5, k6, k7, k8, k9, -⟩, z1, z3, z4, z5, z6, z7, z8, z9⟩ := unhide HQ3; simp only [Nat.zero_add] at k1 k3 k4 k5 k6 k7 k8 k9))
              go_meet
              exact ⟨1, 0, _, _, rfl, rfl, (((unhide HP).later (below_step (below_step hb3 hb4) hb5)).put (unhide HNE) _).put (unhide HNE) _, (unhide HQ3).put_cols.put_aggs.e, ((below_step (unhide HBD) (below_step (below_step hb3 hb4) hb5)).setCell (by show _ ≤ _; exact unhide HLE) _).setCell (by show _ ≤ _; exact unhide HLE) _, unhide HFI⟩
            have e6 : (p.op == 6) = false := by simpa using o6
            by_cases o7 : p.op = 7
            · have e7 : (p.op == 7) = true := by rw [o7]; rfl
              have HN : needsB p = true := by unfold needsB; rw [o7]; rfl
              have HFI := hide (fin7 o7 HN)
              clear o7
              go_wp2_with fail
              go_meet
              exact ⟨1, 0, p, m, rfl, rfl, unhide HP, (unhide HQ).e, unhide HBD, unhide HFI⟩
            have e7 : (p.op == 7) = false := by simpa using o7
            by_cases o8 : p.op = 8
            · have e8 : (p.op == 8) = true := by rw [o8]; rfl
              have HN : needsB p = true := by unfold needsB; rw [o8]; rfl
              have c10 := (unhide HP).c10
              simp only [Nat.zero_add] at c10
              have HFI := hide (fin8 o8 HN)
              clear o8
              go_wp2_with fail
              all_goals
                go_meet
                refine ⟨(max 1 (p.args.length : Int)), 0, p, m, ?_, rfl, unhide HP, (unhide HQ).e, unhide HBD, unhide HFI⟩
                first
                  | rfl
                  | (congr 1; omega)
            have e8 : (p.op == 8) = false := by simpa using o8
            by_cases o9 : p.op = 9
            · have e9 : (p.op == 9) = true := by rw [o9]; rfl
              have c4 := (unhide HP).c4
              have c8 := (unhide HP).c8
              have c9 := (unhide HP).c9
              simp only [Nat.zero_add] at c4 c8 c9
              have HBA := hide (below_alloc (Below.refl _ wd) (.cells #[.int .i64 p.n, .int .i64 p.off] 3))
              have HLO := hide (low_any [p.n, p.off] (some ⟨wd.heap.size, 0, none⟩) 2 (wd.alloc (.cells #[.int .i64 p.n, .int .i64 p.off] 3)) (by simp) (two_ints wd p.n p.off))
              have HK := hide (fun (W : World) (hW : Below wd.heap.size wd W) => keyCols_any p.keys m.aK m.cK W f4 ((unhide HO).k.later hW))
              have HKL : Hid ((p.keys.map Prod.fst).length ≤ 1048576) := by show _ ≤ _; rw [List.length_map]; omega
              cases hl0 : [p.n, p.off].any (fun x => decide (x < 0))
              case true =>
                have hor : p.n < 0 ∨ p.off < 0 := by simpa using hl0
                have HZ : Hid (R = false) := by
                  show _ = _
                  rw [unhide HRS]
                  refine sound_not ?_
                  unfold needsB
                  rw [o9]
                  show (colsB (p.keys.map Prod.fst) && decide (0 ≤ p.n) && decide (0 ≤ p.off)) = false
                  rcases hor with hor | hor
                  · rw [decide_eq_false (by omega : ¬ 0 ≤ p.n)]; simp
                  · rw [decide_eq_false (by omega : ¬ 0 ≤ p.off)]; simp
                rw [hl0] at HLO
                clear HRS hl0 hor
                clear o9
                go_wp2_with (first
                  | (go_at_call 51; refine (unhide HU4).mono ?_; rintro r w5 ⟨rfl, hb5⟩; have hB5 := below_step hB4 hb5; have HQ3 := hide ((unhide HQ).later hB5); obtain ⟨⟨-, k1, -, k3, k4, k5, k6, k7, k8, k9, -⟩, z1, z3, z4, z5, z6, z7, z8, z9⟩ := unhide HQ3; simp only [Nat.zero_add] at k1 k3 k4 k5 k6 k7 k8 k9)
                  | (go_at_call 38; refine (unhide HK _ hB3).mono ?_; rintro r w4 ⟨a4, c4x, rfl, hO4, hb4⟩; have HU4 := hide (unlikeR_any kc a4 c4x w4 (by have := unhide HKL; omega) hO4.cap_le hO4.ints); rw [huk] at HU4; have hB4 := below_step hB3 hb4)
                  | (go_at_call 50; refine (unhide HL2).mono ?_; rintro r w3 ⟨rfl, hb3⟩; have hB3 := below_step hB2 hb3; have y4 := ((unhide HP).later hB3).c4; simp only [Nat.zero_add] at y4)
                  | (go_at_call 38; refine (unhide HK _ hB1).mono ?_; rintro r w2 ⟨a2, c2x, rfl, hO2, hb2⟩; have HL2 := hide (low_any kc a2 c2x w2 (by have := unhide HKL; omega) hO2.ints); rw [hlk] at HL2; have hB2 := below_step hB1 hb2)
                  | (go_at_call 50; refine (unhide HLO).mono ?_; rintro r w1 ⟨rfl, hb1⟩; have hB1 := below_step (unhide HBA) hb1; have x4 := ((unhide HP).later hB1).c4; simp only [Nat.zero_add] at x4))
                exact bodyPost_ret (v := .bool false) (by simp [results, Tryz.results23, go_sem]) rfl ⟨by rw [unhide HZ], below_step (unhide HBD) hB1⟩
              have hnn : 0 ≤ p.n ∧ 0 ≤ p.off := by simpa using hl0
              obtain ⟨kc, hkc⟩ : ∃ kc, kc = p.keys.map Prod.fst := ⟨_, rfl⟩
              rw [← hkc] at HK HKL
              rw [hl0] at HLO
              clear hl0
              cases hlk : kc.any (fun x => decide (x < 0))
              case true =>
                have HZ : Hid (R = false) := by show _ = _; rw [unhide HRS]; exact sound_not (by unfold needsB; rw [o9]; show (colsB (p.keys.map Prod.fst) && decide (0 ≤ p.n) && decide (0 ≤ p.off)) = false; rw [← hkc]; unfold colsB; rw [hlk]; simp)
                clear HRS hnn hkc
                clear o9
                go_wp2_with (first
                  | (go_at_call 51; refine (unhide HU4).mono ?_; rintro r w5 ⟨rfl, hb5⟩; have hB5 := below_step hB4 hb5; have HQ3 := hide ((unhide HQ).later hB5); obtain ⟨⟨-, k1, -, k3, k4, k5, k6, k7, k8, k9, -⟩, z1, z3, z4, z5, z6, z7, z8, z9⟩ := unhide HQ3; simp only [Nat.zero_add] at k1 k3 k4 k5 k6 k7 k8 k9)
                  | (go_at_call 38; refine (unhide HK _ hB3).mono ?_; rintro r w4 ⟨a4, c4x, rfl, hO4, hb4⟩; have HU4 := hide (unlikeR_any kc a4 c4x w4 (by have := unhide HKL; omega) hO4.cap_le hO4.ints); rw [huk] at HU4; have hB4 := below_step hB3 hb4)
                  | (go_at_call 50; refine (unhide HL2).mono ?_; rintro r w3 ⟨rfl, hb3⟩; have hB3 := below_step hB2 hb3; have y4 := ((unhide HP).later hB3).c4; simp only [Nat.zero_add] at y4)
                  | (go_at_call 38; refine (unhide HK _ hB1).mono ?_; rintro r w2 ⟨a2, c2x, rfl, hO2, hb2⟩; have HL2 := hide (low_any kc a2 c2x w2 (by have := unhide HKL; omega) hO2.ints); rw [hlk] at HL2; have hB2 := below_step hB1 hb2)
                  | (go_at_call 50; refine (unhide HLO).mono ?_; rintro r w1 ⟨rfl, hb1⟩; have hB1 := below_step (unhide HBA) hb1; have x4 := ((unhide HP).later hB1).c4; simp only [Nat.zero_add] at x4))
                exact bodyPost_ret (v := .bool false) (by simp [results, Tryz.results23, go_sem]) rfl ⟨by rw [unhide HZ], below_step (unhide HBD) hB3⟩
              cases huk : decide kc.Nodup
              case false =>
                have HZ : Hid (R = false) := by show _ = _; rw [unhide HRS]; exact sound_not (by unfold needsB; rw [o9]; show (colsB (p.keys.map Prod.fst) && decide (0 ≤ p.n) && decide (0 ≤ p.off)) = false; rw [← hkc]; unfold colsB; rw [huk]; simp)
                clear HRS hnn hkc
                clear o9
                go_wp2_with (first
                  | (go_at_call 51; refine (unhide HU4).mono ?_; rintro r w5 ⟨rfl, hb5⟩; have hB5 := below_step hB4 hb5; have HQ3 := hide ((unhide HQ).later hB5); obtain ⟨⟨-, k1, -, k3, k4, k5, k6, k7, k8, k9, -⟩, z1, z3, z4, z5, z6, z7, z8, z9⟩ := unhide HQ3; simp only [Nat.zero_add] at k1 k3 k4 k5 k6 k7 k8 k9)
                  | (go_at_call 38; refine (unhide HK _ hB3).mono ?_; rintro r w4 ⟨a4, c4x, rfl, hO4, hb4⟩; have HU4 := hide (unlikeR_any kc a4 c4x w4 (by have := unhide HKL; omega) hO4.cap_le hO4.ints); rw [huk] at HU4; have hB4 := below_step hB3 hb4)
                  | (go_at_call 50; refine (unhide HL2).mono ?_; rintro r w3 ⟨rfl, hb3⟩; have hB3 := below_step hB2 hb3; have y4 := ((unhide HP).later hB3).c4; simp only [Nat.zero_add] at y4)
                  | (go_at_call 38; refine (unhide HK _ hB1).mono ?_; rintro r w2 ⟨a2, c2x, rfl, hO2, hb2⟩; have HL2 := hide (low_any kc a2 c2x w2 (by have := unhide HKL; omega) hO2.ints); rw [hlk] at HL2; have hB2 := below_step hB1 hb2)
                  | (go_at_call 50; refine (unhide HLO).mono ?_; rintro r w1 ⟨rfl, hb1⟩; have hB1 := below_step (unhide HBA) hb1; have x4 := ((unhide HP).later hB1).c4; simp only [Nat.zero_add] at x4))
                exact bodyPost_ret (v := .bool false) (by simp [results, Tryz.results23, go_sem]) rfl ⟨by rw [unhide HZ], below_step (unhide HBD) hB5⟩
              have HN : needsB p = true := by unfold needsB; rw [o9]; show (colsB (p.keys.map Prod.fst) && decide (0 ≤ p.n) && decide (0 ≤ p.off)) = true; rw [← hkc]; unfold colsB; rw [hlk, huk, decide_eq_true hnn.1, decide_eq_true hnn.2]; rfl
              have HFI := hide (fin9 o9 HN)
              clear HN hnn hkc
              clear o9
              go_wp2_with (first
                | (go_at_call 51; refine (unhide HU4).mono ?_; rintro r w5 ⟨rfl, hb5⟩; have hB5 := below_step hB4 hb5; have HQ3 := hide ((unhide HQ).later hB5); obtain ⟨⟨-, k1, -, k3, k4, k5, k6, k7, k8, k9, -⟩, z1, z3, z4, z5, z6, z7, z8, z9⟩ := unhide HQ3; simp only [Nat.zero_add] at k1 k3 k4 k5 k6 k7 k8 k9)
                | (go_at_call 38; refine (unhide HK _ hB3).mono ?_; rintro r w4 ⟨a4, c4x, rfl, hO4, hb4⟩; have HU4 := hide (unlikeR_any kc a4 c4x w4 (by have := unhide HKL; omega) hO4.cap_le hO4.ints); rw [huk] at HU4; have hB4 := below_step hB3 hb4)
                | (go_at_call 50; refine (unhide HL2).mono ?_; rintro r w3 ⟨rfl, hb3⟩; have hB3 := below_step hB2 hb3; have y4 := ((unhide HP).later hB3).c4; simp only [Nat.zero_add] at y4)
                | (go_at_call 38; refine (unhide HK _ hB1).mono ?_; rintro r w2 ⟨a2, c2x, rfl, hO2, hb2⟩; have HL2 := hide (low_any kc a2 c2x w2 (by have := unhide HKL; omega) hO2.ints); rw [hlk] at HL2; have hB2 := below_step hB1 hb2)
                | (go_at_call 50; refine (unhide HLO).mono ?_; rintro r w1 ⟨rfl, hb1⟩; have hB1 := below_step (unhide HBA) hb1; have x4 := ((unhide HP).later hB1).c4; simp only [Nat.zero_add] at x4))
              go_meet
              exact ⟨1, 0, _, _, rfl, rfl, ((((unhide HP).later hB5).put (unhide HNE) _).put (unhide HNE) _).put (unhide HNE) _, (unhide HQ3).put_keys.put_n.put_off.e, (((below_step (unhide HBD) hB5).setCell (by show _ ≤ _; exact unhide HLE) _).setCell (by show _ ≤ _; exact unhide HLE) _).setCell (by show _ ≤ _; exact unhide HLE) _, unhide HFI⟩
            have e9 : (p.op == 9) = false := by simpa using o9
            by_cases o10 : p.op = 10
            · have e10 : (p.op == 10) = true := by rw [o10]; rfl
              have HW := hide (window_any p (unhide HF) m wd (unhide HO))
              have HL := hide (unhide HP).load
              rw [Pl.val_open] at HW HL
              cases hn : windB p
              · have HZ : Hid (R = false) := by show _ = _; rw [unhide HRS]; exact sound_not (by unfold needsB; rw [o10]; exact hn)
                rw [hn] at HW
                clear hn HRS
                clear o10
                go_wp2_with (first | (refine wpList_load_w ?_ 28 (.tmp 1) rfl _ (by simp [Act.eval]) _ (unhide HL) ?_; · simp [Region.wanted, yielded]) | (go_at_call 53; refine (unhide HW).mono ?_; rintro r w3 ⟨rfl, hb3⟩))
                exact bodyPost_ret (v := .bool false) (by simp [results, Tryz.results23, go_sem]) rfl ⟨by rw [unhide HZ], below_step (unhide HBD) hb3⟩
              · have HN : needsB p = true := by unfold needsB; rw [o10]; exact hn
                have HFI := hide (fin10 o10 HN)
                rw [hn] at HW
                clear hn HN
                clear o10
                go_wp2_with (first | (refine wpList_load_w ?_ 28 (.tmp 1) rfl _ (by simp [Act.eval]) _ (unhide HL) ?_; · simp [Region.wanted, yielded]) | (go_at_call 53; refine (unhide HW).mono ?_; rintro r w3 ⟨rfl, hb3⟩; have HQ3 := hide ((unhide HQ).later hb3); obtain ⟨⟨-, k1, -, k3, k4, k5, k6, k7, k8, k9, -⟩, z1, z3, z4, z5, z6, z7, z8, z9⟩ := unhide HQ3; simp only [Nat.zero_add] at k1 k3 k4 k5 k6 k7 k8 k9))
                go_meet
                exact ⟨1, 0, _, _, rfl, rfl, ((((((unhide HP).later hb3).put (unhide HNE) _).put (unhide HNE) _).put (unhide HNE) _).put (unhide HNE) _).put (unhide HNE) _, (unhide HQ3).put_cols.put_keys.put_fn.put_col.put_n.e, (((((below_step (unhide HBD) hb3).setCell (by show _ ≤ _; exact unhide HLE) _).setCell (by show _ ≤ _; exact unhide HLE) _).setCell (by show _ ≤ _; exact unhide HLE) _).setCell (by show _ ≤ _; exact unhide HLE) _).setCell (by show _ ≤ _; exact unhide HLE) _, unhide HFI⟩
            have e10 : (p.op == 10) = false := by simpa using o10
            by_cases o11 : p.op = 11
            · have e11 : (p.op == 11) = true := by rw [o11]; rfl
              have HN : needsB p = true := by unfold needsB; rw [o11]; rfl
              have HFI := hide (fin11 o11 HN)
              clear o11
              go_wp2_with fail
              go_meet
              exact ⟨2, 0, p, m, rfl, rfl, unhide HP, (unhide HQ).e, unhide HBD, unhide HFI⟩
            have e11 : (p.op == 11) = false := by simpa using o11
            by_cases o12 : p.op = 12
            · have e12 : (p.op == 12) = true := by rw [o12]; rfl
              have HK := hide (kindsOK_any p.cols m.aC m.cC wd (by omega) (unhide HO).c)
              have c3 := (unhide HP).c3
              simp only [Nat.zero_add] at c3
              cases hn : kindsB p.cols
              · have HZ : Hid (R = false) := by show _ = _; rw [unhide HRS]; exact sound_not (by unfold needsB; rw [o12]; exact hn)
                rw [hn] at HK
                clear hn HRS
                clear o12
                go_wp2_with (go_at_call 25; refine (unhide HK).mono ?_; rintro r w3 ⟨rfl, hb3⟩)
                exact bodyPost_ret (v := .bool false) (by simp [results, Tryz.results23, go_sem]) rfl ⟨by rw [unhide HZ], below_step (unhide HBD) hb3⟩
              · have HN : needsB p = true := by unfold needsB; rw [o12]; exact hn
                have HFI := hide (fin12 o12 HN)
                rw [hn] at HK
                clear hn HN
                clear o12
                go_wp2_with (go_at_call 25; refine (unhide HK).mono ?_; rintro r w3 ⟨rfl, hb3⟩; have HQ3 := hide ((unhide HQ).later hb3); have k3 := (unhide HQ3).e.c3; have z3 := (unhide HQ3).f3; simp only [Nat.zero_add] at k3)
                go_meet
                exact ⟨0, 0, _, _, rfl, rfl, ((unhide HP).later hb3).put (unhide HNE) _, (unhide HQ3).put_cols.e, (below_step (unhide HBD) hb3).setCell (by show _ ≤ _; exact unhide HLE) _, unhide HFI⟩
            have e12 : (p.op == 12) = false := by simpa using o12
            have HZ : Hid (R = false) := by
              show _ = _; rw [unhide HRS]; exact sound_not (by unfold needsB; rw [e1, e2, e4, e5, e3, e6, e7, e8, e11, e9, e10, e12]; rfl)
            clear HRS
            go_wp2_with fail
            exact bodyPost_ret (v := .bool false) (by simp [results, Tryz.results23, go_sem]) rfl ⟨by rw [unhide HZ], unhide HBD⟩
          case rest =>
            obtain ⟨A, E, q, mq, rfl, rfl, HP2, HQ2, HB2, HS⟩ := hcut
            have HRF : Hid (R = finB p A E q.tab q.cols.length q.keys.length q.aggs.length q.fn q.col q.n q.off) := by show _ = _; rw [unhide HRS, unhide HS]
            clear HS HRS HP HQ HBD HO HF c0
            by_cases h0 : (p.args.length : Int) = A
            case neg =>
              have e0 : ((p.args.length : Int) == A) = false := by simpa using h0
              obtain rfl : R = false := by rw [unhide HRF]; unfold finB; simp [h0]
              clear HRF h0
              obtain ⟨-, -, a2, -, -, -, -, -, -, -, a10⟩ := unhide HP2
              obtain ⟨-, b1, -, b3, b4, b5, b6, b7, b8, b9, -⟩ := unhide HQ2
              simp only [Nat.zero_add] at a2 a10 b1 b3 b4 b5 b6 b7 b8 b9
              clear HP2 HQ2
              go_upto_region 53 with fail
              try simp only [List.append_eq, List.cons_append, List.nil_append]
              go_wp2
              exact bodyPost_ret (v := .bool false) (by simp [results, Tryz.results23, go_sem]) rfl ⟨rfl, unhide HB2⟩
            have e0 : ((p.args.length : Int) == A) = true := by simpa using h0
            by_cases h1 : (p.ex.length : Int) = E
            case neg =>
              have e1 : ((p.ex.length : Int) == E) = false := by simpa using h1
              obtain rfl : R = false := by rw [unhide HRF]; unfold finB; simp [h1]
              clear HRF h0 h1
              obtain ⟨-, -, a2, -, -, -, -, -, -, -, a10⟩ := unhide HP2
              obtain ⟨-, b1, -, b3, b4, b5, b6, b7, b8, b9, -⟩ := unhide HQ2
              simp only [Nat.zero_add] at a2 a10 b1 b3 b4 b5 b6 b7 b8 b9
              clear HP2 HQ2
              go_upto_region 53 with fail
              try simp only [List.append_eq, List.cons_append, List.nil_append]
              go_wp2
              exact bodyPost_ret (v := .bool false) (by simp [results, Tryz.results23, go_sem]) rfl ⟨rfl, unhide HB2⟩
            have e1 : ((p.ex.length : Int) == E) = true := by simpa using h1
            by_cases h2 : q.tab = ⟨#[]⟩
            case neg =>
              have e2 : (q.tab.toList == []) = false := by have h := eq_bytes q.tab ⟨#[]⟩; rw [toList_data' ⟨#[]⟩] at h; exact h.trans (decide_eq_false h2)
              obtain rfl : R = false := by rw [unhide HRF]; unfold finB; simp [h2]
              clear HRF h0 h1 h2
              obtain ⟨-, -, a2, -, -, -, -, -, -, -, a10⟩ := unhide HP2
              obtain ⟨-, b1, -, b3, b4, b5, b6, b7, b8, b9, -⟩ := unhide HQ2
              simp only [Nat.zero_add] at a2 a10 b1 b3 b4 b5 b6 b7 b8 b9
              clear HP2 HQ2
              go_upto_region 53 with fail
              try simp only [List.append_eq, List.cons_append, List.nil_append]
              go_wp2
              exact bodyPost_ret (v := .bool false) (by simp [results, Tryz.results23, go_sem]) rfl ⟨rfl, unhide HB2⟩
            have e2 : (q.tab.toList == []) = true := by have h := eq_bytes q.tab ⟨#[]⟩; rw [toList_data' ⟨#[]⟩] at h; exact h.trans (decide_eq_true h2)
            by_cases h3 : q.cols.length = 0
            case neg =>
              have e3 : ((q.cols.length : Int) == 0) = false := by rw [show (0 : Int) = ((0 : Nat) : Int) from rfl, natbeq]; simpa using h3
              obtain rfl : R = false := by rw [unhide HRF]; unfold finB; simp [h3]
              clear HRF h0 h1 h2 h3
              obtain ⟨-, -, a2, -, -, -, -, -, -, -, a10⟩ := unhide HP2
              obtain ⟨-, b1, -, b3, b4, b5, b6, b7, b8, b9, -⟩ := unhide HQ2
              simp only [Nat.zero_add] at a2 a10 b1 b3 b4 b5 b6 b7 b8 b9
              clear HP2 HQ2
              go_upto_region 53 with fail
              try simp only [List.append_eq, List.cons_append, List.nil_append]
              go_wp2
              exact bodyPost_ret (v := .bool false) (by simp [results, Tryz.results23, go_sem]) rfl ⟨rfl, unhide HB2⟩
            have e3 : ((q.cols.length : Int) == 0) = true := by rw [show (0 : Int) = ((0 : Nat) : Int) from rfl, natbeq]; simpa using h3
            by_cases h4 : q.keys.length = 0
            case neg =>
              have e4 : ((q.keys.length : Int) == 0) = false := by rw [show (0 : Int) = ((0 : Nat) : Int) from rfl, natbeq]; simpa using h4
              obtain rfl : R = false := by rw [unhide HRF]; unfold finB; simp [h4]
              clear HRF h0 h1 h2 h3 h4
              obtain ⟨-, -, a2, -, -, -, -, -, -, -, a10⟩ := unhide HP2
              obtain ⟨-, b1, -, b3, b4, b5, b6, b7, b8, b9, -⟩ := unhide HQ2
              simp only [Nat.zero_add] at a2 a10 b1 b3 b4 b5 b6 b7 b8 b9
              clear HP2 HQ2
              go_upto_region 53 with fail
              try simp only [List.append_eq, List.cons_append, List.nil_append]
              go_wp2
              exact bodyPost_ret (v := .bool false) (by simp [results, Tryz.results23, go_sem]) rfl ⟨rfl, unhide HB2⟩
            have e4 : ((q.keys.length : Int) == 0) = true := by rw [show (0 : Int) = ((0 : Nat) : Int) from rfl, natbeq]; simpa using h4
            by_cases h5 : q.aggs.length = 0
            case neg =>
              have e5 : ((q.aggs.length : Int) == 0) = false := by rw [show (0 : Int) = ((0 : Nat) : Int) from rfl, natbeq]; simpa using h5
              obtain rfl : R = false := by rw [unhide HRF]; unfold finB; simp [h5]
              clear HRF h0 h1 h2 h3 h4 h5
              obtain ⟨-, -, a2, -, -, -, -, -, -, -, a10⟩ := unhide HP2
              obtain ⟨-, b1, -, b3, b4, b5, b6, b7, b8, b9, -⟩ := unhide HQ2
              simp only [Nat.zero_add] at a2 a10 b1 b3 b4 b5 b6 b7 b8 b9
              clear HP2 HQ2
              go_upto_region 53 with fail
              try simp only [List.append_eq, List.cons_append, List.nil_append]
              go_wp2
              exact bodyPost_ret (v := .bool false) (by simp [results, Tryz.results23, go_sem]) rfl ⟨rfl, unhide HB2⟩
            have e5 : ((q.aggs.length : Int) == 0) = true := by rw [show (0 : Int) = ((0 : Nat) : Int) from rfl, natbeq]; simpa using h5
            by_cases h6 : q.fn = 0
            case neg =>
              have e6 : (q.fn == 0) = false := by simpa using h6
              obtain rfl : R = false := by rw [unhide HRF]; unfold finB; simp [h6]
              clear HRF h0 h1 h2 h3 h4 h5 h6
              obtain ⟨-, -, a2, -, -, -, -, -, -, -, a10⟩ := unhide HP2
              obtain ⟨-, b1, -, b3, b4, b5, b6, b7, b8, b9, -⟩ := unhide HQ2
              simp only [Nat.zero_add] at a2 a10 b1 b3 b4 b5 b6 b7 b8 b9
              clear HP2 HQ2
              go_upto_region 53 with fail
              try simp only [List.append_eq, List.cons_append, List.nil_append]
              go_wp2
              exact bodyPost_ret (v := .bool false) (by simp [results, Tryz.results23, go_sem]) rfl ⟨rfl, unhide HB2⟩
            have e6 : (q.fn == 0) = true := by simpa using h6
            by_cases h7 : q.col = 0
            case neg =>
              have e7 : (q.col == 0) = false := by simpa using h7
              obtain rfl : R = false := by rw [unhide HRF]; unfold finB; simp [h7]
              clear HRF h0 h1 h2 h3 h4 h5 h6 h7
              obtain ⟨-, -, a2, -, -, -, -, -, -, -, a10⟩ := unhide HP2
              obtain ⟨-, b1, -, b3, b4, b5, b6, b7, b8, b9, -⟩ := unhide HQ2
              simp only [Nat.zero_add] at a2 a10 b1 b3 b4 b5 b6 b7 b8 b9
              clear HP2 HQ2
              go_upto_region 53 with fail
              try simp only [List.append_eq, List.cons_append, List.nil_append]
              go_wp2
              exact bodyPost_ret (v := .bool false) (by simp [results, Tryz.results23, go_sem]) rfl ⟨rfl, unhide HB2⟩
            have e7 : (q.col == 0) = true := by simpa using h7
            by_cases h8 : q.n = 0
            case neg =>
              have e8 : (q.n == 0) = false := by simpa using h8
              obtain rfl : R = false := by rw [unhide HRF]; unfold finB; simp [h8]
              clear HRF h0 h1 h2 h3 h4 h5 h6 h7 h8
              obtain ⟨-, -, a2, -, -, -, -, -, -, -, a10⟩ := unhide HP2
              obtain ⟨-, b1, -, b3, b4, b5, b6, b7, b8, b9, -⟩ := unhide HQ2
              simp only [Nat.zero_add] at a2 a10 b1 b3 b4 b5 b6 b7 b8 b9
              clear HP2 HQ2
              go_upto_region 53 with fail
              try simp only [List.append_eq, List.cons_append, List.nil_append]
              go_wp2
              exact bodyPost_ret (v := .bool false) (by simp [results, Tryz.results23, go_sem]) rfl ⟨rfl, unhide HB2⟩
            have e8 : (q.n == 0) = true := by simpa using h8
            by_cases h9 : q.off = 0
            case neg =>
              have e9 : (q.off == 0) = false := by simpa using h9
              obtain rfl : R = false := by rw [unhide HRF]; unfold finB; simp [h9]
              clear HRF h0 h1 h2 h3 h4 h5 h6 h7 h8 h9
              obtain ⟨-, -, a2, -, -, -, -, -, -, -, a10⟩ := unhide HP2
              obtain ⟨-, b1, -, b3, b4, b5, b6, b7, b8, b9, -⟩ := unhide HQ2
              simp only [Nat.zero_add] at a2 a10 b1 b3 b4 b5 b6 b7 b8 b9
              clear HP2 HQ2
              go_upto_region 53 with fail
              try simp only [List.append_eq, List.cons_append, List.nil_append]
              go_wp2
              exact bodyPost_ret (v := .bool false) (by simp [results, Tryz.results23, go_sem]) rfl ⟨rfl, unhide HB2⟩
            have e9 : (q.off == 0) = true := by simpa using h9
            obtain rfl : R = true := by rw [unhide HRF]; unfold finB; simp only [decide_eq_true h0, decide_eq_true h1, decide_eq_true h2, decide_eq_true h3, decide_eq_true h4, decide_eq_true h5, decide_eq_true h6, decide_eq_true h7, decide_eq_true h8, decide_eq_true h9]; rfl
            clear HRF h0 h1 h2 h3 h4 h5 h6 h7 h8 h9
            obtain ⟨-, -, a2, -, -, -, -, -, -, -, a10⟩ := unhide HP2
            obtain ⟨-, b1, -, b3, b4, b5, b6, b7, b8, b9, -⟩ := unhide HQ2
            simp only [Nat.zero_add] at a2 a10 b1 b3 b4 b5 b6 b7 b8 b9
            clear HP2 HQ2
            go_upto_region 53 with fail
            try simp only [List.append_eq, List.cons_append, List.nil_append]
            go_wp2
            exact bodyPost_ret (v := .bool true) (by simp [results, Tryz.results23, go_sem]) rfl ⟨rfl, unhide HB2⟩
theorem rbltP_all : ∀ (k : Nat) (p : Pl), p.size ≤ k → p.fin → ∀ (m : Pm) (w : World), PlM w p m → Calls Tryz.prog 23 #[p.val m] w fun r w' => r = .returned (.bool (bltP p)) ∧ Below w.heap.size w w'
  | 0, p, hs, _, _, _, _ => by rw [Pl.size_mk] at hs; omega
  | k + 1, p, hs, hf, m, w, ha => rbltP_step p hf m w ha fun i x hx m' W hW => rbltP_all k x (by have := Pl.size_arg hx; omega) (Pl.fin_arg hf hx) m' W hW
/-- tallyref.built (23). -/
theorem rbltP_any (p : Pl) (hf : p.fin) (m : Pm) (w : World) (ha : PlM w p m) : Calls Tryz.prog 23 #[p.val m] w fun r w' => r = .returned (.bool (bltP p)) ∧ Below w.heap.size w w' := rbltP_all p.size p (Nat.le_refl _) hf m w ha
end Go.Proofs.YtcpndojkfngioaaGreat
