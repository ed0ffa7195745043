import Derived.Test.YtcpndojkfngioaaGreatPlN
set_option linter.unusedSimpArgs false
set_option linter.unusedVariables false
namespace Go.Proofs.YtcpndojkfngioaaGreat
open Go.RowKit Go.Sort

/-- What the document's count answers. -/
def RcQ (N : Int) (m : Option Int) (w : World) (r : Ending) (w' : World) : Prop := ∃ n : Int, r = .returned (.tuple #[.int .i64 n, .bool m.isSome]) ∧ (∀ k, m = some k → n = N + k) ∧ Below w.heap.size w w'
theorem RcQ.no {N n : Int} {m : Option Int} {w w' : World} (h : m = none) (hb : Below w.heap.size w w') : RcQ N m w (.returned (.tuple #[.int .i64 n, .bool false])) w' := ⟨n, (by rw [h]; rfl), (fun k hk => by rw [h] at hk; cases hk), hb⟩
theorem RcQ.yes {N n k : Int} {m : Option Int} {w w' : World} (h : m = some k) (hn : n = N + k) (hb : Below w.heap.size w w') : RcQ N m w (.returned (.tuple #[.int .i64 n, .bool true])) w' := ⟨n, (by rw [h]; rfl), (fun q hk => by rw [h] at hk; injection hk with hk; omega), hb⟩
set_option maxHeartbeats 8000000 in
set_option maxRecDepth 100000 in
theorem rcount_step (p : Pl) (hf : p.fin) (N H : Int) (m : Pm) (w : World) (hN0 : 0 ≤ N) (hN : N ≤ 400) (hH0 : 1 ≤ H) (hH : H ≤ 40) (ha : PlM w p m)
    (IH : ∀ (i : Nat) (x : Pl), p.args[i]? = some x → ∀ (N' H' : Int) (m' : Pm) (W : World), 0 ≤ N' → N' ≤ 400 → 1 ≤ H' → H' ≤ 40 → PlM W x m' → Calls Tryz.prog 22 #[x.val m', .int .i64 N', .int .i64 H'] W (RcQ N' (cntP x (400 - N') (41 - H')) W)) :
    Calls Tryz.prog 22 #[p.val m, .int .i64 N, .int .i64 H] w (RcQ N (cntP p (400 - N) (41 - H)) w) := by
  obtain ⟨⟨f1, f2, f3, f4, f5, f6, f7, _⟩, hfx, _⟩ := Pl.fin_open hf
  have HFX := hide hfx
  obtain ⟨R, hR⟩ : ∃ R, R = cntP p (400 - N) (41 - H) := ⟨_, rfl⟩
  have HR : Hid (R = if decide (400 - N < 1) || decide (41 - H < 1) then none else match cntX p.ex (400 - N) 1 with
    | none => none
    | some c => cntL p.args (400 - N) (41 - H) c) := by rw [hR]; exact cntP_eq p _ _
  rw [← hR]
  have hb0 := below_alloc (Below.refl _ w) (p.box m)
  have HE : Hid (Elv (w.alloc (p.box m)) w.heap.size 0 p m) := Elv.new w p m
  have HA := hide (ha.later hb0)
  have HB := hide hb0
  have HIH := hide IH
  rw [Pl.val_open]
  unfold Pl.box at HE HB HA
  clear hR ha IH hb0 hf hfx
  obtain ⟨wa, hwa⟩ : ∃ wa, wa = w.alloc (.cells #[.int .i64 p.op, .string p.tab, .slice m.aE p.ex.length m.cE, .slice m.aC p.cols.length m.cC, .slice m.aK p.keys.length m.cK, .slice m.aA p.aggs.length m.cA, .int .i64 p.fn, .int .i64 p.col, .int .i64 p.n, .int .i64 p.off, .slice m.aP p.args.length m.cP] 28) := ⟨_, rfl⟩
  rw [← hwa] at HE HB HA
  have HWA := hide hwa
  clear hwa
  have c2 := (unhide HE).c2
  simp only [Nat.zero_add] at c2
  by_cases hN4 : N = 400
  · subst hN4
    have hRn : R = none := by have := unhide HR; rw [if_pos (by simp)] at this; exact this
    have HRN := hide hRn
    clear HR hRn HIH
    go_enter Tryz.func22, Tryz.ntmps22
    go_upto_region 2 with fail
    rw [← unhide HWA]
    go_wp2_with fail
    go_loopw [1, 21] (fun s1 i wr => s1 = .int .i64 401 ∧ i = .int .i64 0 ∧ wr = wa) (fun _ _ _ => 0)
    case atStart => exact ⟨rfl, rfl, rfl⟩
    case round =>
      clear c2
      obtain ⟨rfl, rfl, rfl⟩ := hrel
      by_cases hlt : 0 < p.ex.length
      · have h9 : (0 : Int) < (p.ex.length : Int) := by omega
        obtain ⟨x, hx⟩ : ∃ x, p.ex[0]? = some x := ⟨_, List.getElem?_eq_getElem hlt⟩
        obtain ⟨vb, vo, ea, hat⟩ := Ex.all_get (unhide HA).o.e hx
        obtain ⟨a', c', ⟨d0, d1, d2, d3, d4, d5⟩, hal⟩ := Ex.at_open hat
        simp only [Nat.zero_mul, Nat.add_zero] at d0 d1 d2 d3 d4 d5
        have hxf := Ex.fins_mem (unhide HFX) (List.mem_of_getElem? hx)
        have HC := hide (rsize_any x hxf a' c' (wr.alloc (.cells #[.int .i64 x.op, .int .i64 x.n, .int .i64 x.v.k, .int .i64 x.v.n, .string x.v.s, .slice a' x.args.length c'] 74)) (Ex.all_later _ hal (below_alloc (Below.refl _ _) _)))
        have HB2 := hide (below_alloc (unhide HB) (.cells #[.int .i64 x.op, .int .i64 x.n, .int .i64 x.v.k, .int .i64 x.v.n, .string x.v.s, .slice a' x.args.length c'] 74))
        rw [Ex.val_open] at HC
        obtain ⟨ne, hne0⟩ : ∃ ne, ne = nodE x := ⟨_, rfl⟩
        have hne := nodE_le x
        rw [← hne0] at hne
        rw [ea]
        clear hx hat hal hxf
        cases hbx : builtE x with
        | true =>
          have hs : sizeB x = ((x.size : Int), (x.high : Int)) := by unfold sizeB; rw [if_pos hbx]
          have hn : ne = (x.size : Int) := by rw [hne0]; unfold nodE; rw [if_pos hbx]
          rw [hs] at HC
          subst hn
          have h4 : (x.size : Int) ≤ 400 := by omega
          clear hs hbx hne0
          have h5 : (400 : Int) < 401 + (x.size : Int) := by omega
          go_wp2_with (go_at_call 48; refine (unhide HC).mono ?_; rintro r w3 ⟨rfl, hb3⟩)
          exact bodyPost_ret (v := .tuple #[.int .i64 (401 + (x.size : Int)), .bool false]) (by simp [results, Tryz.results22, go_sem]) rfl (RcQ.no (unhide HRN) (below_step (unhide HB2) hb3))
        | false =>
          have hs : sizeB x = (401, 41) := by unfold sizeB; rw [if_neg (by rw [hbx]; decide)]
          have hn : ne = 1 := by rw [hne0]; unfold nodE; rw [if_neg (by rw [hbx]; decide)]
          rw [hs] at HC
          subst hn
          clear hs hbx hne0
          go_wp2_with (go_at_call 48; refine (unhide HC).mono ?_; rintro r w3 ⟨rfl, hb3⟩)
          exact bodyPost_ret (v := .tuple #[.int .i64 402, .bool false]) (by simp [results, Tryz.results22, go_sem]) rfl (RcQ.no (unhide HRN) (below_step (unhide HB2) hb3))
      · have h9 : ¬ (0 : Int) < (p.ex.length : Int) := by omega
        have c10 := (unhide HE).c10
        simp only [Nat.zero_add] at c10
        go_wp2_with fail
        go_loopw [1, 44] (fun s1 i wx => s1 = .int .i64 401 ∧ i = .int .i64 0 ∧ wx = wr) (fun _ _ _ => 0)
        case atStart => exact ⟨rfl, rfl, rfl⟩
        case round =>
          clear c10
          obtain ⟨rfl, rfl, rfl⟩ := hrel
          by_cases hlp : 0 < p.args.length
          · have h8 : (0 : Int) < (p.args.length : Int) := by omega
            obtain ⟨x, hx⟩ : ∃ x, p.args[0]? = some x := ⟨_, List.getElem?_eq_getElem hlp⟩
            obtain ⟨vb, vo, ea, hat⟩ := Pl.all_get (unhide HA).p hx
            obtain ⟨m', hel, _, _⟩ := Pl.at_open hat
            simp only [Nat.zero_mul, Nat.add_zero] at hel
            have HLD := hide hel.load
            have HB2 := hide (below_step (unhide HB) (below_alloc (Below.refl _ wr) (x.box m')))
            rw [Pl.val_open] at HLD
            unfold Pl.box at HB2
            rw [ea]
            clear hx hat hel
            by_cases hH4 : 40 ≤ H
            · go_wp2_with (refine wpList_load_w ?_ 28 (.tmp 46) rfl _ (by simp [Act.eval]) _ (unhide HLD) ?_; · simp [Region.wanted, yielded])
              exact bodyPost_ret (v := .tuple #[.int .i64 401, .bool false]) (by simp [results, Tryz.results22, go_sem]) rfl (RcQ.no (unhide HRN) (unhide HB2))
            · go_wp2_with (refine wpList_load_w ?_ 28 (.tmp 46) rfl _ (by simp [Act.eval]) _ (unhide HLD) ?_; · simp [Region.wanted, yielded])
              exact bodyPost_ret (v := .tuple #[.int .i64 401, .bool false]) (by simp [results, Tryz.results22, go_sem]) rfl (RcQ.no (unhide HRN) (unhide HB2))
          · have h8 : ¬ (0 : Int) < (p.args.length : Int) := by omega
            go_wp2
            exact bodyPost_ret (v := .tuple #[.int .i64 401, .bool false]) (by simp [results, Tryz.results22, go_sem]) rfl (RcQ.no (unhide HRN) (unhide HB))
  have HR2 : Hid (R = match cntX p.ex (400 - N) 1 with
    | none => none
    | some c => cntL p.args (400 - N) (41 - H) c) := by have := unhide HR; show _ = _; rw [if_neg (by simp; omega)] at this; exact this
  clear HR
  go_enter Tryz.func22, Tryz.ntmps22
  go_upto_region 2 with fail
  rw [← unhide HWA]
  go_wp2_with fail
  go_loopw [1, 21] (fun s1 i wr => ∃ (k : Nat) (cc : Int), k ≤ p.ex.length ∧ i = .int .i64 (k : Int) ∧ s1 = .int .i64 (N + cc) ∧ 1 ≤ cc ∧ cc ≤ 400 - N ∧ Hid (cntX p.ex (400 - N) 1 = cntX (p.ex.drop k) (400 - N) cc) ∧ Hid (Below wa.heap.size wa wr)) (fun _ i _ => p.ex.length - (intOf i).toNat)
  case atStart => exact ⟨0, 1, Nat.zero_le _, rfl, rfl, by omega, by omega, rfl, Below.refl _ _⟩
  case round =>
    clear c2
    obtain ⟨k, cc, hk, rfl, rfl, g1, g2, HM, HBL⟩ := hrel
    by_cases hlt : k < p.ex.length
    · have h9 : (k : Int) < (p.ex.length : Int) := by omega
      obtain ⟨x, hx⟩ : ∃ x, p.ex[k]? = some x := ⟨_, List.getElem?_eq_getElem hlt⟩
      have hd : p.ex.drop k = x :: p.ex.drop (k + 1) := by
        obtain ⟨q1, q2⟩ := List.getElem?_eq_some_iff.1 hx
        rw [List.drop_eq_getElem_cons q1, q2]
      obtain ⟨vb, vo, ea, hat⟩ := Ex.all_get (Ex.all_later _ (unhide HA).o.e (unhide HBL)) hx
      obtain ⟨a', c', ⟨d0, d1, d2, d3, d4, d5⟩, hal⟩ := Ex.at_open hat
      have hxf := Ex.fins_mem (unhide HFX) (List.mem_of_getElem? hx)
      have HC := hide (rsize_any x hxf a' c' (wr.alloc (.cells #[.int .i64 x.op, .int .i64 x.n, .int .i64 x.v.k, .int .i64 x.v.n, .string x.v.s, .slice a' x.args.length c'] 74)) (Ex.all_later _ hal (below_alloc (Below.refl _ _) _)))
      have HB2 := hide (below_alloc (unhide HBL) (.cells #[.int .i64 x.op, .int .i64 x.n, .int .i64 x.v.k, .int .i64 x.v.n, .string x.v.s, .slice a' x.args.length c'] 74))
      rw [Ex.val_open] at HC
      rw [hd, cntX] at HM
      obtain ⟨ne, hne0⟩ : ∃ ne, ne = nodE x := ⟨_, rfl⟩
      have hne := nodE_le x
      rw [← hne0] at hne HM
      rw [ea]
      clear hx hd hat hal hxf HBL
      by_cases ho : 400 - N < cc + ne
      · have HZ : Hid (R = none) := by
          have h1 := unhide HM
          rw [if_pos ho] at h1
          have h2 := unhide HR2
          rw [h1] at h2
          exact h2
        clear HM HR2
        cases hbx : builtE x with
        | true =>
          have hs : sizeB x = ((x.size : Int), (x.high : Int)) := by unfold sizeB; rw [if_pos hbx]
          have hn : ne = (x.size : Int) := by rw [hne0]; unfold nodE; rw [if_pos hbx]
          rw [hs] at HC
          subst hn
          have h4 : (x.size : Int) ≤ 400 := by omega
          clear hs hbx hne0
          have h5 : (400 : Int) < N + cc + (x.size : Int) := by omega
          go_wp2_with (go_at_call 48; refine (unhide HC).mono ?_; rintro r w3 ⟨rfl, hb3⟩)
          exact bodyPost_ret (v := .tuple #[.int .i64 (N + cc + (x.size : Int)), .bool false]) (by simp [results, Tryz.results22, go_sem]) rfl (RcQ.no (unhide HZ) (below_step (unhide HB) (below_step (unhide HB2) hb3)))
        | false =>
          have hs : sizeB x = (401, 41) := by unfold sizeB; rw [if_neg (by rw [hbx]; decide)]
          have hn : ne = 1 := by rw [hne0]; unfold nodE; rw [if_neg (by rw [hbx]; decide)]
          rw [hs] at HC
          subst hn
          clear hs hbx hne0
          have h5 : (400 : Int) < N + cc + 1 := by omega
          go_wp2_with (go_at_call 48; refine (unhide HC).mono ?_; rintro r w3 ⟨rfl, hb3⟩)
          exact bodyPost_ret (v := .tuple #[.int .i64 (N + cc + 1), .bool false]) (by simp [results, Tryz.results22, go_sem]) rfl (RcQ.no (unhide HZ) (below_step (unhide HB) (below_step (unhide HB2) hb3)))
      · rw [if_neg ho] at HM
        cases hbx : builtE x with
        | true =>
          have hs : sizeB x = ((x.size : Int), (x.high : Int)) := by unfold sizeB; rw [if_pos hbx]
          have hn : ne = (x.size : Int) := by rw [hne0]; unfold nodE; rw [if_pos hbx]
          rw [hs] at HC
          subst hn
          have h4 : (x.size : Int) ≤ 400 := by omega
          clear hs hbx hne0
          have h5 : ¬ (400 : Int) < N + cc + (x.size : Int) := by omega
          go_wp2_with (go_at_call 48; refine (unhide HC).mono ?_; rintro r w3 ⟨rfl, hb3⟩)
          exact ⟨⟨k + 1, cc + (x.size : Int), by omega, by go_num, by go_num, by omega, by omega, unhide HM, below_step (unhide HB2) hb3⟩, by simp [intOf]; omega⟩
        | false =>
          have hs : sizeB x = (401, 41) := by unfold sizeB; rw [if_neg (by rw [hbx]; decide)]
          have hn : ne = 1 := by rw [hne0]; unfold nodE; rw [if_neg (by rw [hbx]; decide)]
          rw [hs] at HC
          subst hn
          clear hs hbx hne0
          have h5 : ¬ (400 : Int) < N + cc + 1 := by omega
          go_wp2_with (go_at_call 48; refine (unhide HC).mono ?_; rintro r w3 ⟨rfl, hb3⟩)
          exact ⟨⟨k + 1, cc + 1, by omega, by go_num, by go_num, by omega, by omega, unhide HM, below_step (unhide HB2) hb3⟩, by simp [intOf]; omega⟩
    · have h9 : ¬ (k : Int) < (p.ex.length : Int) := by omega
      have HR3 : Hid (R = cntL p.args (400 - N) (41 - H) cc) := by
        have h1 := unhide HM
        have h2 := unhide HR2
        rw [List.drop_eq_nil_of_le (by omega), cntX] at h1
        rw [h1] at h2
        exact h2
      have HB1 := hide (below_step (unhide HB) (unhide HBL))
      have HE1 := hide ((unhide HE).later (unhide HBL))
      have HA1 := hide ((unhide HA).later (unhide HBL))
      have c10 := (unhide HE1).c10
      simp only [Nat.zero_add] at c10
      clear HM HR2 HBL HB HE HA HFX hlt hk
      obtain ⟨wb, hwb⟩ : ∃ wb, wb = wr := ⟨_, rfl⟩
      subst hwb
      go_wp2_with fail
      go_loopw [1, 44] (fun s1 i wr => ∃ (k : Nat) (cc : Int), k ≤ p.args.length ∧ i = .int .i64 (k : Int) ∧ s1 = .int .i64 (N + cc) ∧ 1 ≤ cc ∧ cc ≤ 400 - N ∧ Hid (R = cntL (p.args.drop k) (400 - N) (41 - H) cc) ∧ Hid (Below wb.heap.size wb wr)) (fun _ i _ => p.args.length - (intOf i).toNat)
      case atStart => exact ⟨0, cc, Nat.zero_le _, rfl, rfl, by omega, by omega, unhide HR3, Below.refl _ _⟩
      case round =>
        clear c10 HR3
        obtain ⟨k, cc, hk, rfl, rfl, g1, g2, HM, HBL⟩ := hrel
        by_cases hlt : k < p.args.length
        · have h9 : (k : Int) < (p.args.length : Int) := by omega
          obtain ⟨x, hx⟩ : ∃ x, p.args[k]? = some x := ⟨_, List.getElem?_eq_getElem hlt⟩
          have hd : p.args.drop k = x :: p.args.drop (k + 1) := by
            obtain ⟨q1, q2⟩ := List.getElem?_eq_some_iff.1 hx
            rw [List.drop_eq_getElem_cons q1, q2]
          obtain ⟨vb, vo, ea, hat⟩ := Pl.all_get (Pl.all_later _ (unhide HA1).p (unhide HBL)) hx
          obtain ⟨m', hel, h4, hal⟩ := Pl.at_open hat
          have hba := below_alloc (Below.refl _ wr) (x.box m')
          have HB2 := hide (below_step (unhide HBL) hba)
          have HLD := hide hel.load
          have HL2 := hide (Elv.new wr x m').load
          rw [Pl.val_open] at HLD HL2
          rw [hd, cntL] at HM
          rw [ea]
          have h4c : ¬ (400 : Int) < N + cc := by omega
          by_cases hH4 : 40 ≤ H
          · have HZ : Hid (R = none) := by
              have h1 := unhide HM
              rw [cntP_eq, if_pos (by simp; omega)] at h1
              exact h1
            unfold Pl.box at HB2
            clear HM hx hd hat hal hba hel h4 HBL HL2
            go_wp2_with (refine wpList_load_w ?_ 28 (.tmp 46) rfl _ (by simp [Act.eval]) _ (unhide HLD) ?_; · simp [Region.wanted, yielded])
            exact bodyPost_ret (v := .tuple #[.int .i64 (N + cc), .bool false]) (by simp [results, Tryz.results22, go_sem]) rfl (RcQ.no (unhide HZ) (below_step (unhide HB1) (unhide HB2)))
          · have HC := hide (unhide HIH k x hx (N + cc) (H + 1) m' (wr.alloc (x.box m')) (by omega) (by omega) (by omega) (by omega) ((PlM.mk h4 hal).later hba))
            rw [show 400 - (N + cc) = 400 - N - cc by omega, show 41 - (H + 1) = 41 - H - 1 by omega, Pl.val_open] at HC
            unfold Pl.box at HC HB2 HL2
            obtain ⟨q, hq⟩ : ∃ q, cntP x (400 - N - cc) (41 - H - 1) = q := ⟨_, rfl⟩
            rw [hq] at HC HM
            have HQ := hide hq
            clear hx hd hat hal hq hba hel h4 HBL
            cases q with
            | none =>
              have HZ : Hid (R = none) := unhide HM
              clear HM HQ
              go_wp2_with (first
                | (refine wpList_load_w ?_ 28 (.tmp 46) rfl _ (by simp [Act.eval]) _ (unhide HLD) ?_; · simp [Region.wanted, yielded])
                | (refine wpList_load_w ?_ 28 (.tmp 13) rfl _ (by simp [Act.eval]) _ (unhide HL2) ?_; · simp [Region.wanted, yielded])
                | (go_at_call 22; refine (unhide HC).mono ?_; rintro r w3 ⟨n3, rfl, _, hb3⟩))
              exact bodyPost_ret (v := .tuple #[.int .i64 n3, .bool false]) (by simp [results, Tryz.results22, go_sem]) rfl (RcQ.no (unhide HZ) (below_step (unhide HB1) (below_step (unhide HB2) hb3)))
            | some q =>
              obtain ⟨m1, m2⟩ := cntP_le x (400 - N - cc) (41 - H - 1) (unhide HQ)
              have HM2 : Hid (R = cntL (p.args.drop (k + 1)) (400 - N) (41 - H) (cc + q)) := unhide HM
              clear HM HQ
              go_wp2_with (first
                | (refine wpList_load_w ?_ 28 (.tmp 46) rfl _ (by simp [Act.eval]) _ (unhide HLD) ?_; · simp [Region.wanted, yielded])
                | (refine wpList_load_w ?_ 28 (.tmp 13) rfl _ (by simp [Act.eval]) _ (unhide HL2) ?_; · simp [Region.wanted, yielded])
                | (go_at_call 22; refine (unhide HC).mono ?_; rintro r w3 ⟨n3, rfl, hn3, hb3⟩; obtain rfl := hn3 q rfl))
              exact ⟨⟨k + 1, cc + q, by omega, by go_num, by go_num, by omega, by omega, unhide HM2, below_step (unhide HB2) hb3⟩, by simp [intOf]; omega⟩
        · have h9 : ¬ (k : Int) < (p.args.length : Int) := by omega
          have HZ : Hid (R = some cc) := by
            have h1 := unhide HM
            rw [List.drop_eq_nil_of_le (by omega), cntL] at h1
            exact h1
          have HBE := hide (below_step (unhide HB1) (unhide HBL))
          have h4c : N + cc ≤ 400 := by omega
          clear HM HBL
          go_wp2
          exact bodyPost_ret (v := .tuple #[.int .i64 (N + cc), .bool true]) (by simp [results, Tryz.results22, go_sem]) rfl (RcQ.yes (unhide HZ) rfl (unhide HBE))
theorem rcount_all : ∀ (k : Nat) (p : Pl), p.size ≤ k → p.fin → ∀ (N H : Int) (m : Pm) (w : World), 0 ≤ N → N ≤ 400 → 1 ≤ H → H ≤ 40 → PlM w p m →
    Calls Tryz.prog 22 #[p.val m, .int .i64 N, .int .i64 H] w (RcQ N (cntP p (400 - N) (41 - H)) w)
  | 0, p, hs, _, _, _, _, _, _, _, _, _, _ => by rw [Pl.size_mk] at hs; omega
  | k + 1, p, hs, hf, N, H, m, w, h1, h2, h3, h4, ha => rcount_step p hf N H m w h1 h2 h3 h4 ha fun i x hx N' H' m' W g1 g2 g3 g4 hW =>
    rcount_all k x (by have := Pl.size_arg hx; omega) (Pl.fin_arg hf hx) N' H' m' W g1 g2 g3 g4 hW
end Go.Proofs.YtcpndojkfngioaaGreat
set_option linter.unusedSimpArgs false
set_option linter.unusedVariables false
namespace Go.Proofs.YtcpndojkfngioaaGreat
open Go.RowKit Go.Sort

def okN (s : ByteArray) (i : Nat) : Bool := letB (byI s i) || (decide (¬ i = 0) && digB (byI s i))
theorem name_no {s : ByteArray} {k : Nat} (hk : k < s.size) (h : okN s k = false) : nameB s = false := by
  unfold okN at h
  simp only [Bool.or_eq_false_iff, Bool.and_eq_false_iff, decide_eq_false_iff_not, Classical.not_not] at h
  unfold nameB
  by_cases h0 : k = 0
  · subst h0
    rw [h.1, Bool.and_false, Bool.false_and]
  · have hd : digB (byI s k) = false := by rcases h.2 with q | q; · exact absurd q h0
                                           · exact q
    rw [name_bad hk (by unfold namB; rw [h.1, hd]; rfl), Bool.and_false]
theorem name_yes {s : ByteArray} (h : ∀ i, i < s.size → okN s i = true) : nameB s = (decide (1 ≤ s.size) && decide (s.size ≤ 40)) := by
  unfold nameB
  by_cases h1 : 1 ≤ s.size
  · have h0 := h 0 (by omega)
    unfold okN at h0
    simp at h0
    rw [h0, name_all (fun i hi => ?_) rfl]
    · simp
    · have := h i hi
      unfold okN at this
      unfold namB
      simp only [Bool.or_eq_true, Bool.and_eq_true] at this ⊢
      rcases this with q | q
      · exact .inl q
      · exact .inr q.2
  · rw [decide_eq_false h1]; rfl
set_option maxHeartbeats 2000000 in
set_option maxRecDepth 100000 in
/-- tallyref.Name (24). -/
theorem rname_any (s : ByteArray) (hs : s.size ≤ 140737488355328) (w : World) : Calls Tryz.prog 24 #[.string s] w fun r w' => r = .returned (.bool (nameB s)) ∧ Below w.heap.size w w' := by
  obtain ⟨R, hR⟩ : ∃ R, R = nameB s := ⟨_, rfl⟩
  rw [← hR]
  have HR := hide hR
  clear hR
  go_enter Tryz.func24, Tryz.ntmps24
  go_wp2_with fail
  go_loopw [3] (fun i wr => ∃ k : Nat, k ≤ s.size ∧ i = .int .i64 (k : Int) ∧ Hid (∀ i, i < k → okN s i = true) ∧ wr = w) (fun i _ => s.size - (intOf i).toNat)
  case atStart => exact ⟨0, Nat.zero_le _, rfl, fun i hi => absurd hi (by omega), rfl⟩
  case round =>
    obtain ⟨k, hk, rfl, HN, rfl⟩ := hrel
    by_cases hlt : k < s.size
    · have h9 : (k : Int) < (s.size : Int) := by omega
      have hxk := idxS s k hlt
      have HY : Hid (okN s k = true → ∀ i, i < k + 1 → okN s i = true) := fun h i hi => by
        rcases Nat.lt_or_eq_of_le (Nat.le_of_lt_succ hi) with q | rfl
        · exact unhide HN i q
        · exact h
      have HX : Hid (okN s k = false → R = false) := fun h => by rw [unhide HR]; exact name_no hlt h
      unfold okN at HX HY
      generalize byI s k = y at *
      clear HN
      by_cases h1 : 97 ≤ y
      · by_cases h2 : y ≤ 122
        · have HN2 := hide (unhide HY (by unfold letB; simp [h1, h2]))
          clear HX HY
          go_wp2
          exact ⟨⟨k + 1, by omega, by go_num, unhide HN2, trivial⟩, by simp [intOf]; omega⟩
        · have hl : letB y = false := by unfold letB; simp [h1]; omega
          have hd : digB y = false := by unfold digB; simp; omega
          have HZ := hide (unhide HX (by rw [hl, hd]; simp))
          clear HX HY hl hd
          by_cases h0 : k = 0
          · have h0' : ((k : Int) == 0) = true := by simp [h0]
            clear h0
            go_wp2
            go_ret
            exact ⟨by rw [unhide HZ]; rfl, Below.refl _ _⟩
          · have h0' : ((k : Int) == 0) = false := by simp; omega
            have h3 : 48 ≤ y := by omega
            have h4 : ¬ y ≤ 57 := by omega
            have h5 : (y == 95) = false := by simp; omega
            clear h0
            go_wp2
            go_ret
            exact ⟨by rw [unhide HZ]; rfl, Below.refl _ _⟩
      · have hl : letB y = false := by unfold letB; simp; omega
        by_cases h0 : k = 0
        · have h0' : ((k : Int) == 0) = true := by simp [h0]
          have HZ := hide (unhide HX (by rw [hl]; simp [h0]))
          clear HX HY hl h0
          go_wp2
          go_ret
          exact ⟨by rw [unhide HZ]; rfl, Below.refl _ _⟩
        have h0' : ((k : Int) == 0) = false := by simp; omega
        by_cases h3 : 48 ≤ y
        · by_cases h4 : y ≤ 57
          · have HN2 := hide (unhide HY (by rw [hl]; unfold digB; simp [h0, h3, h4]))
            clear HX HY hl h0
            go_wp2
            exact ⟨⟨k + 1, by omega, by go_num, unhide HN2, trivial⟩, by simp [intOf]; omega⟩
          · by_cases h5 : y = 95
            · subst h5
              have HN2 := hide (unhide HY (by rw [hl]; unfold digB; simp [h0]))
              clear HX HY hl h0
              go_wp2
              exact ⟨⟨k + 1, by omega, by go_num, unhide HN2, trivial⟩, by simp [intOf]; omega⟩
            · have h5' : (y == 95) = false := by simpa using h5
              have HZ := hide (unhide HX (by rw [hl]; unfold digB; simp [h0, h3, h4, h5]))
              clear HX HY hl h0 h5
              go_wp2
              go_ret
              exact ⟨by rw [unhide HZ]; rfl, Below.refl _ _⟩
        · have h5' : (y == 95) = false := by simp; omega
          have hd : digB y = false := by unfold digB; simp; omega
          have HZ := hide (unhide HX (by rw [hl, hd]; simp))
          clear HX HY hl hd h0
          go_wp2
          go_ret
          exact ⟨by rw [unhide HZ]; rfl, Below.refl _ _⟩
    · have h9 : ¬ (k : Int) < (s.size : Int) := by omega
      have HZ : Hid (R = (decide (1 ≤ s.size) && decide (s.size ≤ 40))) := by rw [unhide HR]; exact name_yes fun i hi => unhide HN i (by omega)
      clear HN
      by_cases g1 : 1 ≤ s.size
      · have i1 : (1 : Int) ≤ (s.size : Int) := by omega
        obtain rfl : R = decide ((s.size : Int) ≤ 40) := by rw [unhide HZ, decide_eq_true g1, Bool.true_and, Bool.eq_iff_iff]; simp; omega
        go_wp2
        go_ret
        exact ⟨rfl, Below.refl _ _⟩
      · have i1 : ¬ (1 : Int) ≤ (s.size : Int) := by omega
        obtain rfl : R = false := by rw [unhide HZ, decide_eq_false g1]; rfl
        go_wp2
        go_ret
        exact ⟨rfl, Below.refl _ _⟩
end Go.Proofs.YtcpndojkfngioaaGreat
