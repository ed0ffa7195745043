import Derived.Test.YtcpndojkfngioaaGreatPlA
import Derived.Test.YtcpndojkfngioaaGreatPcS
set_option linter.unusedSimpArgs false
set_option linter.unusedVariables false
namespace Go.Proofs.YtcpndojkfngioaaGreat
open Go.RowKit Go.Sort

/-- How much an expression counts in a plan. -/
def nodE (e : Ex) : Int := if builtE e then (e.size : Int) else 1
theorem nodE_le (e : Ex) : 1 ≤ nodE e ∧ nodE e ≤ 400 := by
  unfold nodE
  split
  · rename_i h
    obtain ⟨h1, h2, _, _⟩ := meas_le soundE e 400 40 (built_size h)
    omega
  · omega
/-- How large a plan is, by a budget. -/
def cntX : List Ex → Int → Int → Option Int
  | [], _, c => some c
  | e :: l, N, c => if N < c + nodE e then none else cntX l N (c + nodE e)
mutual
def cntP : Pl → Int → Int → Option Int
  | .mk _ _ ex _ _ _ _ _ _ _ l, N, H => if decide (N < 1) || decide (H < 1) then none else match cntX ex N 1 with
    | none => none
    | some c => cntL l N H c
def cntL : List Pl → Int → Int → Int → Option Int
  | [], _, _, c => some c
  | p :: l, N, H, c => match cntP p (N - c) (H - 1) with
    | none => none
    | some k => cntL l N H (c + k)
end
theorem cntP_eq (p : Pl) (N H : Int) : cntP p N H = if decide (N < 1) || decide (H < 1) then none else match cntX p.ex N 1 with
    | none => none
    | some c => cntL p.args N H c := by cases p; rw [cntP]; rfl
theorem cntX_le : ∀ (l : List Ex) (N c : Int) {k : Int}, c ≤ N → cntX l N c = some k → c ≤ k ∧ k ≤ N
  | [], N, c, k, h1, h => by rw [cntX] at h; injection h with h; omega
  | e :: l, N, c, k, h1, h => by
    rw [cntX] at h
    split at h
    · cases h
    · have := nodE_le e
      have := cntX_le l N (c + nodE e) (by omega) h
      omega
mutual
theorem cntP_le : ∀ (p : Pl) (N H : Int) {k : Int}, cntP p N H = some k → 1 ≤ k ∧ k ≤ N
  | .mk op tab ex cols keys aggs fn col n o l, N, H, k, h => by
    rw [cntP] at h
    split at h
    · cases h
    · rename_i hc
      simp only [Bool.or_eq_true, decide_eq_true_eq, not_or] at hc
      cases hx : cntX ex N 1 with
      | none => rw [hx] at h; cases h
      | some c =>
        rw [hx] at h
        simp only at h
        have g1 := cntX_le ex N 1 (by omega) hx
        have := cntL_le l N H c (by omega) h
        omega
theorem cntL_le : ∀ (l : List Pl) (N H c : Int) {k : Int}, c ≤ N → cntL l N H c = some k → c ≤ k ∧ k ≤ N
  | [], N, H, c, k, h1, h => by rw [cntL] at h; injection h with h; omega
  | p :: l, N, H, c, k, h1, h => by
    rw [cntL] at h
    cases hp : cntP p (N - c) (H - 1) with
    | none => rw [hp] at h; cases h
    | some q =>
      rw [hp] at h
      simp only at h
      have := cntP_le p (N - c) (H - 1) hp
      have := cntL_le l N H (c + q) (by omega) h
      omega
end
set_option maxHeartbeats 400000 in
set_option maxRecDepth 100000 in
/-- nodesOf (42). -/
theorem nodes_any (e : Ex) (hf : e.fin) (a : Option Addr) (c : Nat) (w : World) (ha : Ex.all w a e.args) :
    Calls Tryz.prog 42 #[e.val a c] w fun r w' => r = .returned (.int .i64 (nodE e)) ∧ Below w.heap.size w w' := by
  have HS := hide (fun o => size_any e hf a c (w.alloc o) (Ex.all_later _ ha (below_alloc (Below.refl _ _) o)))
  have hle := nodE_le e
  rw [Ex.val_open] at HS ⊢
  clear ha
  cases hb : builtE e with
  | true =>
    have hs : sizeB e = ((e.size : Int), (e.high : Int)) := by unfold sizeB; rw [if_pos hb]
    have hn : nodE e = (e.size : Int) := by unfold nodE; rw [if_pos hb]
    rw [hs] at HS
    rw [hn] at hle ⊢
    have h4 : ¬ (400 : Int) < (e.size : Int) := by omega
    clear hb hs hn hle
    go_enter Tryz.func42, Tryz.ntmps42
    go_wp2_with (go_at_call 70; refine (unhide HS _).mono ?_; rintro r w1 ⟨rfl, hb1⟩)
    go_ret
    exact ⟨rfl, below_one hb1⟩
  | false =>
    have hs : sizeB e = (401, 41) := by unfold sizeB; rw [if_neg (by rw [hb]; decide)]
    have hn : nodE e = 1 := by unfold nodE; rw [if_neg (by rw [hb]; decide)]
    rw [hs] at HS
    rw [hn]
    clear hb hs hn hle
    go_enter Tryz.func42, Tryz.ntmps42
    go_wp2_with (go_at_call 70; refine (unhide HS _).mono ?_; rintro r w1 ⟨rfl, hb1⟩)
    go_ret
    exact ⟨rfl, below_one hb1⟩
/-- What counted answers. -/
abbrev C2 (m : Option Int) : Ending := .returned (.tuple #[.int .i64 (m.getD 0), .bool m.isSome])
set_option maxHeartbeats 4000000 in
set_option maxRecDepth 100000 in
theorem counted_step (p : Pl) (hf : p.fin) (N H : Int) (m : Pm) (w : World) (hN0 : -1000 ≤ N) (hN : N ≤ 400) (hH0 : 0 ≤ H) (hH : H ≤ 40) (ha : PlM w p m)
    (IH : ∀ (i : Nat) (x : Pl), p.args[i]? = some x → ∀ (N' H' : Int) (m' : Pm) (W : World), -1000 ≤ N' → N' ≤ 400 → 0 ≤ H' → H' ≤ 40 → PlM W x m' → Calls Tryz.prog 20 #[x.val m', .int .i64 N', .int .i64 H'] W fun r w' => r = C2 (cntP x N' H') ∧ Below W.heap.size W w') :
    Calls Tryz.prog 20 #[p.val m, .int .i64 N, .int .i64 H] w fun r w' => r = C2 (cntP p N H) ∧ Below w.heap.size w w' := by
  obtain ⟨⟨f1, f2, f3, f4, f5, f6, f7, _⟩, hfx, _⟩ := Pl.fin_open hf
  have HFX := hide hfx
  obtain ⟨R, hR⟩ : ∃ R, R = cntP p N H := ⟨_, rfl⟩
  have HR : Hid (R = if decide (N < 1) || decide (H < 1) then none else match cntX p.ex N 1 with
    | none => none
    | some c => cntL p.args N H c) := by rw [hR]; exact cntP_eq p N H
  rw [← hR]
  have hb0 := below_alloc (Below.refl _ w) (p.box m)
  have HE : Hid (Elv (w.alloc (p.box m)) w.heap.size 0 p m) := Elv.new w p m
  have HA := hide (ha.later hb0)
  have HB := hide hb0
  have HIH := hide IH
  rw [Pl.val_open]
  unfold Pl.box at HE HB HA
  clear hR ha IH hb0 hf hfx
  by_cases h1 : N < 1
  · go_enter Tryz.func20, Tryz.ntmps20
    go_wp2
    exact bodyPost_ret (v := .tuple #[.int .i64 0, .bool false]) (by simp [results, Tryz.results20, go_sem]) rfl ⟨by rw [unhide HR]; simp [h1], unhide HB⟩
  by_cases h2 : H < 1
  · go_enter Tryz.func20, Tryz.ntmps20
    go_wp2
    exact bodyPost_ret (v := .tuple #[.int .i64 0, .bool false]) (by simp [results, Tryz.results20, go_sem]) rfl ⟨by rw [unhide HR]; simp [h2], unhide HB⟩
  have HR2 : Hid (R = match cntX p.ex N 1 with
    | none => none
    | some c => cntL p.args N H c) := by have := unhide HR; show _ = _; rw [if_neg (by simp; omega)] at this; exact this
  clear HR
  go_enter Tryz.func20, Tryz.ntmps20
  go_upto_region 3 with fail
  obtain ⟨wa, hwa⟩ : ∃ wa, wa = w.alloc (.cells #[.int .i64 p.op, .string p.tab, .slice m.aE p.ex.length m.cE, .slice m.aC p.cols.length m.cC, .slice m.aK p.keys.length m.cK, .slice m.aA p.aggs.length m.cA, .int .i64 p.fn, .int .i64 p.col, .int .i64 p.n, .int .i64 p.off, .slice m.aP p.args.length m.cP] 28) := ⟨_, rfl⟩
  rw [← hwa] at HE HB HA ⊢
  clear hwa
  have c2 := (unhide HE).c2
  simp only [Nat.zero_add] at c2
  go_wp2_with fail
  go_loopw [8, 24] (fun s8 i wr => ∃ (k : Nat) (cc : Int), k ≤ p.ex.length ∧ i = .int .i64 (k : Int) ∧ s8 = .int .i64 cc ∧ 1 ≤ cc ∧ cc ≤ N ∧ Hid (cntX p.ex N 1 = cntX (p.ex.drop k) N cc) ∧ Hid (Below wa.heap.size wa wr)) (fun _ i _ => p.ex.length - (intOf i).toNat)
  case atStart => exact ⟨0, 1, Nat.zero_le _, rfl, rfl, by omega, by omega, rfl, Below.refl _ _⟩
  case round =>
    clear c2
    obtain ⟨k, cc, hk, rfl, rfl, g1, g2, HM, HBL⟩ := hrel
    by_cases hlt : k < p.ex.length
    · have h9 : (k : Int) < (p.ex.length : Int) := by omega
      obtain ⟨x, hx⟩ : ∃ x, p.ex[k]? = some x := ⟨_, List.getElem?_eq_getElem hlt⟩
      have hd : p.ex.drop k = x :: p.ex.drop (k + 1) := by
        obtain ⟨q1, q2⟩ := List.getElem?_eq_some_iff.1 hx
        rw [List.drop_eq_getElem_cons q1, q2]
      obtain ⟨vb, vo, ea, hat⟩ := Ex.all_get (Ex.all_later _ (unhide HA).o.e (unhide HBL)) hx
      obtain ⟨a', c', ⟨d0, d1, d2, d3, d4, d5⟩, hal⟩ := Ex.at_open hat
      have hxf := Ex.fins_mem (unhide HFX) (List.mem_of_getElem? hx)
      have HC := hide (nodes_any x hxf a' c' (wr.alloc (.cells #[.int .i64 x.op, .int .i64 x.n, .int .i64 x.v.k, .int .i64 x.v.n, .string x.v.s, .slice a' x.args.length c'] 74)) (Ex.all_later _ hal (below_alloc (Below.refl _ _) _)))
      have HB2 := hide (below_alloc (unhide HBL) (.cells #[.int .i64 x.op, .int .i64 x.n, .int .i64 x.v.k, .int .i64 x.v.n, .string x.v.s, .slice a' x.args.length c'] 74))
      rw [Ex.val_open] at HC
      rw [hd, cntX] at HM
      have hne := nodE_le x
      generalize nodE x = ne at *
      rw [ea] 
      clear hx hd hat hal hxf HBL
      by_cases ho : N < cc + ne
      · have HZ : Hid (R = none) := by
          have h1 := unhide HM
          rw [if_pos ho] at h1
          have h2 := unhide HR2
          rw [h1] at h2
          exact h2
        clear HM HR2
        go_wp2_with (go_at_call 42; refine (unhide HC).mono ?_; rintro r w3 ⟨rfl, hb3⟩)
        exact bodyPost_ret (v := .tuple #[.int .i64 0, .bool false]) (by simp [results, Tryz.results20, go_sem]) rfl ⟨by rw [unhide HZ]; rfl, below_step (unhide HB) (below_step (unhide HB2) hb3)⟩
      · rw [if_neg ho] at HM
        go_wp2_with (go_at_call 42; refine (unhide HC).mono ?_; rintro r w3 ⟨rfl, hb3⟩)
        exact ⟨⟨k + 1, cc + ne, by omega, by go_num, rfl, by omega, by omega, unhide HM, below_step (unhide HB2) hb3⟩, by simp [intOf]; omega⟩
    · have h9 : ¬ (k : Int) < (p.ex.length : Int) := by omega
      have HR3 : Hid (R = cntL p.args N H cc) := by
        have h1 := unhide HM
        have h2 := unhide HR2
        rw [List.drop_eq_nil_of_le (by omega), cntX] at h1
        rw [h1] at h2
        exact h2
      have HB1 := hide (below_step (unhide HB) (unhide HBL))
      have HE1 := hide ((unhide HE).later (unhide HBL))
      have HA1 := hide ((unhide HA).later (unhide HBL))
      have c10 := (unhide HE1).c10
      simp only [Nat.zero_add] at c10
      clear HM HR2 HBL HB HE HA HFX hlt hk
      obtain ⟨wb, hwb⟩ : ∃ wb, wb = wr := ⟨_, rfl⟩
      subst hwb
      go_wp2_with fail
      go_loopw [8, 39] (fun s8 i wr => ∃ (k : Nat) (cc : Int), k ≤ p.args.length ∧ i = .int .i64 (k : Int) ∧ s8 = .int .i64 cc ∧ 1 ≤ cc ∧ cc ≤ N ∧ Hid (R = cntL (p.args.drop k) N H cc) ∧ Hid (Below wb.heap.size wb wr)) (fun _ i _ => p.args.length - (intOf i).toNat)
      case atStart => exact ⟨0, cc, Nat.zero_le _, rfl, rfl, by omega, by omega, unhide HR3, Below.refl _ _⟩
      case round =>
        clear c10 HR3
        obtain ⟨k, cc, hk, rfl, rfl, g1, g2, HM, HBL⟩ := hrel
        by_cases hlt : k < p.args.length
        · have h9 : (k : Int) < (p.args.length : Int) := by omega
          obtain ⟨x, hx⟩ : ∃ x, p.args[k]? = some x := ⟨_, List.getElem?_eq_getElem hlt⟩
          have hd : p.args.drop k = x :: p.args.drop (k + 1) := by
            obtain ⟨q1, q2⟩ := List.getElem?_eq_some_iff.1 hx
            rw [List.drop_eq_getElem_cons q1, q2]
          obtain ⟨vb, vo, ea, hat⟩ := Pl.all_get (Pl.all_later _ (unhide HA1).p (unhide HBL)) hx
          obtain ⟨m', hel, h4, hal⟩ := Pl.at_open hat
          have hba := below_alloc (Below.refl _ wr) (x.box m')
          have HC := hide (unhide HIH k x hx (N - cc) (H - 1) m' (wr.alloc (x.box m')) (by omega) (by omega) (by omega) (by omega) ((PlM.mk h4 hal).later hba))
          have HB2 := hide (below_step (unhide HBL) hba)
          have HLD := hide hel.load
          have HL2 := hide (Elv.new wr x m').load
          rw [Pl.val_open] at HC HLD HL2
          unfold Pl.box at HC HB2 HL2
          rw [hd, cntL] at HM
          obtain ⟨q, hq⟩ : ∃ q, cntP x (N - cc) (H - 1) = q := ⟨_, rfl⟩
          rw [hq] at HC HM
          have HQ := hide hq
          rw [ea]
          clear hx hd hat hal hq hba hel h4 HBL
          cases q with
          | none =>
            have HZ : Hid (R = none) := unhide HM
            clear HM HQ
            go_wp2_with (first
              | (refine wpList_load_w ?_ 28 (.tmp 41) rfl _ (by simp [Act.eval]) _ (unhide HLD) ?_; · simp [Region.wanted, yielded])
              | (refine wpList_load_w ?_ 28 (.tmp 12) rfl _ (by simp [Act.eval]) _ (unhide HL2) ?_; · simp [Region.wanted, yielded])
              | (go_at_call 20; refine (unhide HC).mono ?_; rintro r w3 ⟨rfl, hb3⟩))
            exact bodyPost_ret (v := .tuple #[.int .i64 0, .bool false]) (by simp [results, Tryz.results20, go_sem]) rfl ⟨by rw [unhide HZ]; rfl, below_step (unhide HB1) (below_step (unhide HB2) hb3)⟩
          | some q =>
            obtain ⟨m1, m2⟩ := cntP_le x (N - cc) (H - 1) (unhide HQ)
            have HM2 : Hid (R = cntL (p.args.drop (k + 1)) N H (cc + q)) := unhide HM
            clear HM HQ
            go_wp2_with (first
              | (refine wpList_load_w ?_ 28 (.tmp 41) rfl _ (by simp [Act.eval]) _ (unhide HLD) ?_; · simp [Region.wanted, yielded])
              | (refine wpList_load_w ?_ 28 (.tmp 12) rfl _ (by simp [Act.eval]) _ (unhide HL2) ?_; · simp [Region.wanted, yielded])
              | (go_at_call 20; refine (unhide HC).mono ?_; rintro r w3 ⟨rfl, hb3⟩))
            exact ⟨⟨k + 1, cc + q, by omega, by go_num, rfl, by omega, by omega, unhide HM2, below_step (unhide HB2) hb3⟩, by simp [intOf]; omega⟩
        · have h9 : ¬ (k : Int) < (p.args.length : Int) := by omega
          have HZ : Hid (R = some cc) := by
            have h1 := unhide HM
            rw [List.drop_eq_nil_of_le (by omega), cntL] at h1
            exact h1
          have HBE := hide (below_step (unhide HB1) (unhide HBL))
          clear HM HBL
          go_wp2
          exact bodyPost_ret (v := .tuple #[.int .i64 cc, .bool true]) (by simp [results, Tryz.results20, go_sem]) rfl ⟨by rw [unhide HZ]; rfl, unhide HBE⟩
theorem counted_all : ∀ (k : Nat) (p : Pl), p.size ≤ k → p.fin → ∀ (N H : Int) (m : Pm) (w : World), -1000 ≤ N → N ≤ 400 → 0 ≤ H → H ≤ 40 → PlM w p m →
    Calls Tryz.prog 20 #[p.val m, .int .i64 N, .int .i64 H] w fun r w' => r = C2 (cntP p N H) ∧ Below w.heap.size w w'
  | 0, p, hs, _, _, _, _, _, _, _, _, _, _ => by rw [Pl.size_mk] at hs; omega
  | k + 1, p, hs, hf, N, H, m, w, h1, h2, h3, h4, ha => counted_step p hf N H m w h1 h2 h3 h4 ha fun i x hx N' H' m' W g1 g2 g3 g4 hW =>
    counted_all k x (by have := Pl.size_arg hx; omega) (Pl.fin_arg hf hx) N' H' m' W g1 g2 g3 g4 hW
end Go.Proofs.YtcpndojkfngioaaGreat
