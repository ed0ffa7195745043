import Derived.Test.YtcpndojkfngioaaGreatCkF
import Derived.Test.YtcpndojkfngioaaGreatExK
import Derived.Deep.CutBlock
set_option linter.unusedSimpArgs false
set_option linter.unusedVariables false
namespace Go.Proofs.YtcpndojkfngioaaGreat
open Go.RowKit Go.Sort

theorem inL_lt {w : World} {base : Nat} {v : Value} {L : List Ls} (h : InL w base v L) : ∀ g, v.ownBlock = some g → base ≤ g ∧ g < w.heap.size := World.ownsRow.lt h.o
theorem ints_lt {w : World} {a : Option Addr} {l : List Int} (h : IntsAt w a l) {b off : Nat} (ha : a = some ⟨b, off, none⟩) (hl : ¬ l = []) : b < w.heap.size := by
  rcases h with h | ⟨b', off', e, h⟩
  · exact absurd h hl
  · rw [ha] at e
    injection e with e
    injection e with e1 e2
    subst e1
    cases l with
    | nil => exact absurd rfl hl
    | cons z l => exact World.block_lt_of_cell? _ _ (h 0 z rfl)
/-- What check answers: an error; if there is none, the kinds, which lie apart from what its callers make. -/
def CkQ (w0 : World) (R : Int × List Int) (w : World) (r : Ending) (w' : World) : Prop := ∃ a c M, r = .returned (.tuple #[.slice a M.length c, .int .i64 R.1]) ∧ (R.1 = 0 → M = R.2 ∧ IntsAt w' a M ∧ ∀ b off, a = some ⟨b, off, none⟩ → ¬ M = [] → b < w0.heap.size ∨ w.heap.size ≤ b) ∧ Below w.heap.size w w'
theorem CkQ.err {w0 : World} {er : Int} {L : List Int} {w w' : World} (h : ¬ er = 0) (hb : Below w.heap.size w w') : CkQ w0 (er, L) w (.returned (.tuple #[.slice none 0 0, .int .i64 er])) w' := ⟨none, 0, [], rfl, fun e => absurd e h, hb⟩
theorem CkQ.bad {w0 : World} {er : Int} {L M : List Int} {a : Option Addr} {c : Nat} {w w' : World} (h : ¬ er = 0) (hb : Below w.heap.size w w') : CkQ w0 (er, L) w (.returned (.tuple #[.slice a M.length c, .int .i64 er])) w' := ⟨a, c, M, rfl, fun e => absurd e h, hb⟩
theorem CkQ.old {w0 : World} {er : Int} {L : List Int} {w w' : World} {a : Option Addr} {c : Nat} (hk : IntsAt w' a L) (hs : ∀ b off, a = some ⟨b, off, none⟩ → ¬ L = [] → b < w0.heap.size ∨ w.heap.size ≤ b) (hb : Below w.heap.size w w') : CkQ w0 (er, L) w (.returned (.tuple #[.slice a L.length c, .int .i64 er])) w' := ⟨a, c, L, rfl, fun _ => ⟨rfl, hk, hs⟩, hb⟩
theorem own_at_ge {w : World} {base n c : Nat} {a : Option Addr} {L : List Int} (h : OwnI w base (.slice a n c) L) {b off : Nat} (e : a = some ⟨b, off, none⟩) : base ≤ b := by
  rcases h.2 with ⟨e', _⟩ | ⟨g, cap, cur, e', hb, _⟩
  · injection e' with e1
    rw [e] at e1
    cases e1
  · injection e' with e1
    rw [e] at e1
    injection e1 with e1
    injection e1 with e1
    rw [e1]
    exact hb
theorem CkQ.own {w0 : World} {er : Int} {L : List Int} {w w' : World} {a : Option Addr} {c base : Nat} (hO : OwnI w' base (.slice a L.length c) L) (hs : w.heap.size ≤ base) (hb : Below w.heap.size w w') : CkQ w0 (er, L) w (.returned (.tuple #[.slice a L.length c, .int .i64 er])) w' :=
  ⟨a, c, L, rfl, fun _ => ⟨rfl, hO.ints, fun b off e _ => .inr (Nat.le_trans hs (own_at_ge hO e))⟩, hb⟩
theorem CkQ.pj {w0 : World} {er : Int} {L : List Int} {w wm w' : World} {r : Ending} (h : PjQ L er wm r w') (hb : Below w.heap.size w wm) : CkQ w0 (er, L) w r w' := by
  obtain ⟨a, c, M, h1, h2, h3, h4⟩ := h
  exact ⟨a, c, M, h1, fun e => ⟨h3 e, h2.ints, fun b off e _ => .inr (Nat.le_trans hb.size (own_at_ge h2 e))⟩, below_step hb h4⟩
theorem slice_lo71 (g n c : Nat) (W : World) (hk : 1 ≤ n) : (Instr.slice 71 (.slice (some ⟨g, 0, none⟩) n c) (some (.int .i64 1)) none none).run Tryz.prog W = .ok (.slice (if c = 1 then some ⟨g, 0, none⟩ else some ⟨g, 1, none⟩) (n - 1) (c - 1)) W := by
  obtain ⟨i, hi, _, hz, _⟩ := info_parts info23K
  have h1 : ¬ (n : Int) < 1 := by omega
  simp [Instr.slice, run_underlying Tryz.underlying71, Instr.sliceBounds, Instr.sliceBound, asIntOf, sizeOf, typeInfo, hi, hz, h1, Addr.add]
theorem op_push_far {o : Oper} {a : Act} {w : World} {K : Act → World → Prop} {Q : Exit → Act → World → Prop} (s x : Operand) (ho : o.op = .call { callee := .builtin .append, args := #[s, x], argTypes := #[23, 23] })
    (base : Nat) (v : Value) (L1 L2 : List Int) (aK : Option Addr) (cK : Nat) (hs : a.eval s = v) (hown : OwnI w base v L1) (hx : a.eval x = .slice aK L2.length cK) (hK : IntsAt w aK L2) (hl : L1.length + L2.length ≤ 4000000) (hbase : base ≤ w.heap.size)
    (h : ∀ v' w', OwnI w' base v' (L1 ++ L2) → Below base w w' → K (a.put o.dst v') w') : o.wp Tryz.prog a w K Q := by
  obtain ⟨i4, hi4, z40, z41, z42⟩ := info_parts info3
  cases hak : aK with
  | none =>
    have : L2 = [] := by
      rcases hK with h | ⟨b, off, ha, _⟩
      · exact h
      · rw [hak] at ha; cases ha
    subst this
    rw [hak] at hx
    have hrun := run_append_nilc (w := w) base o.type 3 i4 1 Tryz.underlying23 hi4 v L1.length _ hown cK
    simp only [List.length_nil] at hx
    unfold Oper.wp execOp
    simp only [ho, resolve, invoke, builtin, Sem.run_bind, Sem.run_pure, Result.andThen_ok, List.map_toArray, List.map_cons, List.map_nil, hs, hx, hrun]
    exact h v w (by rw [List.append_nil]; exact hown) (Below.refl _ _)
  | some ad =>
    rw [hak] at hx
    obtain ⟨v', w', hr, h2, h3, h4, h5⟩ := run_append_own_at (P := Tryz.prog) w base 23 o.type 3 i4 (.int .i64 0) 1 8 Tryz.underlying23 hi4 z40 z41 z42 rfl (by decide) v L1.length (L1.map (.int .i64)) hown ad L2.length cK (L2.map (.int .i64)) (by simp) (ints_cells hK hak) (ints_one L2) (by unfold maxLen; omega) (by omega) hbase
    unfold Oper.wp execOp
    simp only [ho, resolve, invoke, builtin, Sem.run_bind, Sem.run_pure, Result.andThen_ok, List.map_toArray, List.map_cons, List.map_nil, hs, hx, hr]
    refine h v' w' ?_ (grown_below h3 hbase (own_ge hown))
    unfold OwnI
    rw [List.length_append, List.map_append]
    exact h2
theorem InL.cap_le {w : World} {base cap : Nat} {a : Option Addr} {L : List Ls} (h : InL w base (.slice a L.length cap) L) : L.length ≤ cap := by
  rcases h.o.2 with ⟨e, h0⟩ | ⟨g, cap', cur, e, q1, q2, q3, _⟩
  · injection e with e1 e2 e3
    omega
  · injection e with e1 e2 e3
    omega
theorem find_at {α : Type} {q : α → Bool} : ∀ {l : List α} {k : Nat} {x : α}, (∀ (i : Nat) y, i < k → l[i]? = some y → q y = false) → l[k]? = some x → q x = true → l.find? q = some x
  | [], k, x, _, hx, _ => by simp at hx
  | y :: l, 0, x, _, hx, hq => by
    simp at hx
    subst hx
    rw [List.find?_cons, hq]
  | y :: l, k + 1, x, h, hx, hq => by
    rw [List.find?_cons, h 0 y (by omega) rfl]
    exact find_at (k := k) (fun i z hi hz => h (i + 1) z (by omega) (by simpa using hz)) (by simpa using hx) hq
set_option maxHeartbeats 8000000 in
set_option maxRecDepth 100000 in
theorem check_step (ts : List Tb) (hw : wellB ts = true) (hft : ∀ t ∈ ts, t.fin) (htl : ts.length ≤ 1048576) (aT : Option Addr) (cT : Nat) (p : Pl) (hf : p.fin) (hb : bltP p = true) (m : Pm) (w0 w : World) (h0 : Below w0.heap.size w0 w) (ha : PlM w0 p m) (hT : Tbs w0 aT ts)
    (IH : ∀ (i : Nat) x, p.args[i]? = some x → ∀ m' W, PlM w0 x m' → Below w0.heap.size w0 W → Calls Tryz.prog 17 #[x.val m', .slice aT ts.length cT] W (CkQ w0 (chkP ts x) W)) :
    Calls Tryz.prog 17 #[p.val m, .slice aT ts.length cT] w (CkQ w0 (chkP ts p) w) := by
  obtain ⟨⟨f1, f2, f3, f4, f5, f6, f7, fc, fk, fa⟩, hfx, _⟩ := Pl.fin_open hf
  have hbb := hb
  rw [bltP_eq] at hbb
  simp only [Bool.and_eq_true, Bool.not_eq_true'] at hbb
  have HND := hide (sound_need hbb.1.1)
  have HAK : Hid (∀ (i : Nat) x, p.args[i]? = some x → (chkP ts x).1 = 0 → KOk (chkP ts x).2) := fun i x hx h => chkP_ok hw x.size x (Nat.le_refl _) (by have := any_out hbb.2 (List.mem_of_getElem? hx); simpa using this) h
  obtain ⟨RR, hRR⟩ : ∃ RR, RR = chkP ts p := ⟨_, rfl⟩
  rw [← hRR]
  have HRR := hide hRR
  have hb0 := below_alloc (Below.refl _ w) (p.box m)
  have HE := hide (Elv.new w p m)
  have HB := hide hb0
  have H0 := hide h0
  have HA := hide ha
  have HF := hide hf
  have HFX := hide hfx
  have HFT := hide hft
  have HT := hide hT
  have HIH := hide IH
  have HBW := hide (below_step h0 hb0)
  rw [Pl.val_open]
  unfold Pl.box at HE HB HBW
  clear hRR hb0 ha hf hfx IH fc fk fa hbb hb hT hft h0 hw
  obtain ⟨wa, hwa⟩ : ∃ wa, wa = w.alloc (.cells #[.int .i64 p.op, .string p.tab, .slice m.aE p.ex.length m.cE, .slice m.aC p.cols.length m.cC, .slice m.aK p.keys.length m.cK, .slice m.aA p.aggs.length m.cA, .int .i64 p.fn, .int .i64 p.col, .int .i64 p.n, .int .i64 p.off, .slice m.aP p.args.length m.cP] 28) := ⟨_, rfl⟩
  rw [← hwa] at HE HB HBW
  have HWA := hide hwa
  have c10 := (unhide HE).c10
  simp only [Nat.zero_add] at c10
  clear hwa
  go_enter Tryz.func17, Tryz.ntmps17
  go_upto_region 2 with fail
  rw [← unhide HWA]
  clear HWA
  go_wp2_with fail
  go_loopw [6, 20] (fun v i wr => ∃ (k : Nat) (a3 : Option Addr) (c3 : Nat) (xs : List Ls), k ≤ p.args.length ∧ i = .int .i64 (k : Int) ∧ v = .slice a3 k c3 ∧ Hid (xs.length = k) ∧ Hid (InL wr wa.heap.size (.slice a3 k c3) xs) ∧ Hid (∀ (j : Nat) y, j < k → p.args[j]? = some y → (chkP ts y).1 = 0) ∧ Hid (xs.map (fun x => x.2.2) = (p.args.take k).map (fun y => (chkP ts y).2)) ∧ Hid (∀ x ∈ xs, ∀ b off, x.1 = some ⟨b, off, none⟩ → ¬ x.2.2 = [] → b < w0.heap.size ∨ w.heap.size ≤ b) ∧ Hid (Below wa.heap.size wa wr)) (fun _ i _ => p.args.length - (intOf i).toNat)
  case atStart => exact ⟨0, none, 0, [], Nat.zero_le _, rfl, rfl, rfl, inL_nil _ _, (fun j y hj => absurd hj (by omega)), (by show _ = _; simp), (fun x hx => by cases hx), Below.refl _ _⟩
  case round =>
    clear c10
    obtain ⟨k, a3, c3, xs, hk, rfl, rfl, HXL, HIN, HOK, HMP, HSP, HBL⟩ := hrel
    by_cases hlt : k < p.args.length
    · have h9 : (k : Int) < (p.args.length : Int) := by omega
      obtain ⟨x, hx⟩ : ∃ x, p.args[k]? = some x := ⟨_, List.getElem?_eq_getElem hlt⟩
      obtain ⟨vb, vo, ea, hat⟩ := Pl.all_get (unhide HA).p hx
      obtain ⟨m', hel, h4, hal⟩ := Pl.at_open hat
      have hBr := below_step (unhide HBW) (unhide HBL)
      have hba := below_alloc (Below.refl _ wr) (x.box m')
      have HBa := hide hba
      have HLD := hide (hel.later hBr).load
      have HL2 := hide (Elv.new wr x m').load
      have HC := hide (unhide HIH k x hx m' (wr.alloc (x.box m')) (PlM.mk h4 hal) (below_step hBr hba))
      have HX := hide hx
      have HTK := hide (take_snocI (fun y => (chkP ts y).2) hx)
      have HWS : Hid ((wr.alloc (x.box m')).heap.size = wr.heap.size + 1) := by show _ = _; simp [go_sem]
      rw [Pl.val_open] at HLD HL2 HC
      unfold Pl.box at HC HBa HL2 HWS
      rw [ea]
      clear hx hat hal hba hel h4 ea hBr
      obtain ⟨er, her⟩ : ∃ er, er = (chkP ts x).1 := ⟨_, rfl⟩
      obtain ⟨kx, hkx⟩ : ∃ kx, kx = (chkP ts x).2 := ⟨_, rfl⟩
      obtain ⟨cx, hcx⟩ : ∃ cx, cx = chkP ts x := ⟨_, rfl⟩
      have HER := hide her
      have HKX := hide hkx
      have HCX : Hid (chkP ts x = (er, kx)) := by show _ = _; rw [her, hkx]
      rw [unhide HCX] at HC
      rw [← hkx] at HTK
      clear her hkx hcx
      by_cases hz : er = 0
      · subst hz
        have HOK2 : Hid (∀ (j : Nat) y, j < k + 1 → p.args[j]? = some y → (chkP ts y).1 = 0) := by
          intro j y hj hy
          rcases Nat.lt_or_eq_of_le (Nat.le_of_lt_succ hj) with h | rfl
          · exact unhide HOK j y h hy
          · rw [unhide HX] at hy; injection hy with hy; rw [← hy]; exact (unhide HER).symm
        clear HX HOK HER HKX HCX
        go_wp2_with (first
          | (refine wpList_load_w ?_ 28 (.tmp 22) rfl _ (by simp [Act.eval]) _ (unhide HLD) ?_; · simp [Region.wanted, yielded])
          | (refine wpList_load_w ?_ 28 (.tmp 8) rfl _ (by simp [Act.eval]) _ (unhide HL2) ?_; · simp [Region.wanted, yielded])
          | (go_at_call 17; refine (unhide HC).mono ?_; rintro r w3 ⟨aR, cR, M, rfl, hok, hb3⟩; have HOKM := hide (hok rfl); have HB3 := hide (below_step (unhide HBa) hb3); have HBS := hide (below_alloc (Below.refl _ w3) (.cells #[.slice aR M.length cR] 23)); have HIN3 := hide ((unhide HIN).later (below_step (unhide HB3) (unhide HBS))); have HCN : Hid ((w3.alloc (.cells #[.slice aR M.length cR] 23)).cell? ⟨w3.heap.size, 0, none⟩ = some (.slice aR M.length cR)) := (by show _ = _; simp [go_sem]); clear hok hb3)
          | (at_builtin; refine wpList_push_ls _ rfl (.tmp 33) (.tmp 35) rfl wa.heap.size _ xs (aR, cR, M) w3.heap.size 1 rfl (unhide HIN3) rfl (unhide HCN) ((unhide HOKM).2.1.later (unhide HBS)) (fun b off e hne e2 => by have q1 := (inL_lt (unhide HIN)) b e2.symm; have q2 := (unhide HOKM).2.2 b off e hne; have q3 := (unhide HBW).size; have q4 := unhide HWS; omega) (by rw [unhide HXL]; omega) (Nat.le_trans (below_step (unhide HBL) (unhide HB3)).size (unhide HBS).size) ?_; intro v' w' hO' hB'))
        obtain ⟨a4, c4, rfl⟩ := hO'.slice
        have e : (xs ++ [(aR, cR, M)]).length = k + 1 := by rw [List.length_append, unhide HXL]; rfl
        rw [e] at hO' ⊢
        refine ⟨⟨k + 1, a4, c4, xs ++ [(aR, cR, M)], by omega, by go_num, rfl, e, hO', unhide HOK2, ?_, ?_, (below_step (below_step (unhide HBL) (unhide HB3)) (unhide HBS)).trans hB'⟩, by simp [intOf]; omega⟩
        · show _ = _
          rw [unhide HTK, List.map_append, unhide HMP, ← (unhide HOKM).1]
          rfl
        · intro x' hx' b off e' hne
          rcases List.mem_append.1 hx' with h | h
          · exact unhide HSP x' h b off e' hne
          · simp at h
            subst h
            rcases (unhide HOKM).2.2 b off e' hne with h | h
            · exact .inl h
            · have q4 := unhide HWS; have q5 := (unhide HBL).size; have q6 := (unhide HB).size; exact .inr (by omega)
      · have HZ : Hid (RR.1 = er) := by
          have hc := chkL_bad ts p.args k x (unhide HOK) (unhide HX) (by rw [← unhide HER]; exact hz)
          rw [← unhide HER] at hc
          show _ = _
          rw [unhide HRR, chkP_eq, if_neg (by rw [hc]; exact hz), hc]
        have bz : (er != 0) = true := by simpa using hz
        clear HX HOK HER HKX HCX
        go_wp2_with (first
          | (refine wpList_load_w ?_ 28 (.tmp 22) rfl _ (by simp [Act.eval]) _ (unhide HLD) ?_; · simp [Region.wanted, yielded])
          | (refine wpList_load_w ?_ 28 (.tmp 8) rfl _ (by simp [Act.eval]) _ (unhide HL2) ?_; · simp [Region.wanted, yielded])
          | (go_at_call 17; refine (unhide HC).mono ?_; rintro r w3 ⟨aR, cR, M, rfl, hok, hb3⟩))
        refine bodyPost_ret (v := .tuple #[.slice none 0 0, .int .i64 er]) (by simp [results, Tryz.results17, go_sem]) rfl ?_
        exact ⟨none, 0, [], by rw [unhide HZ]; rfl, fun e => absurd (by rw [← unhide HZ]; exact e) hz, below_step (unhide HB) (below_step (unhide HBL) (below_step (unhide HBa) hb3))⟩
    · have h9 : ¬ (k : Int) < (p.args.length : Int) := by omega
      obtain rfl : k = p.args.length := by omega
      rw [List.take_length] at HMP
      have HR : Hid (RR = chkOp ts p (xs.map fun x => x.2.2)) := by
        have hc := chkL_ok ts p.args fun i x hx => unhide HOK i x (List.getElem?_eq_some_iff.1 hx).1 hx
        show _ = _
        rw [unhide HRR, chkP_eq, hc, if_pos rfl, unhide HMP]
      have HKS : Hid (∀ x ∈ xs, KOk x.2.2) := by
        intro x hx
        have : x.2.2 ∈ xs.map fun x => x.2.2 := List.mem_map.2 ⟨x, hx, rfl⟩
        rw [unhide HMP] at this
        obtain ⟨y, hy, e⟩ := List.mem_map.1 this
        obtain ⟨i, hi, rfl⟩ := List.mem_iff_getElem.1 hy
        rw [← e]
        exact unhide HAK i _ (List.getElem?_eq_getElem hi) (unhide HOK i _ hi (List.getElem?_eq_getElem hi))
      have HE1 := hide ((unhide HE).later (unhide HBL))
      have HB1 := hide (below_step (unhide HB) (unhide HBL))
      have H01 := hide (below_step (unhide H0) (unhide HB1))
      have HA1 := hide ((unhide HA).later (unhide H01))
      have HOP := hide (need_op (unhide HND))
      have HBLS : Hid (wa.heap.size ≤ wr.heap.size) := (unhide HBL).size
      obtain ⟨-, -, c2, c3x, c4, c5, c6, c7, c8, c9, -⟩ := unhide HE1
      have c0 := (unhide HE1).c0
      simp only [Nat.zero_add] at c2 c3x c4 c5 c6 c7 c8 c9
      clear HOK HMP HRR HBL HB HE HIH HAK hk hlt h9 HBW
      rcases unhide HOP with o | o | o | o | o | o | o | o | o | o | o | o
      · have hRR : RR = tabE ts p.tab := by rw [unhide HR]; unfold chkOp; rw [o]; rfl
        have HRQ := hide hRR
        have e1 : (p.op == 1) = true := by rw [o]; rfl
        clear o c2 c3x c4 c5 c6 c7 c8 c9 HR hRR
        obtain ⟨wq, hwq⟩ : ∃ wq, wq = wr := ⟨_, rfl⟩
        subst hwq
        go_wp2_with fail
        go_loopw [44] (fun i wx => ∃ (k : Nat), k ≤ ts.length ∧ i = .int .i64 (k : Int) ∧ Hid (∀ (j : Nat) y, j < k → ts[j]? = some y → decide (y.name = p.tab) = false) ∧ Hid (Below wq.heap.size wq wx)) (fun i _ => ts.length - (intOf i).toNat)
        case atStart => exact ⟨0, Nat.zero_le _, rfl, (fun j y hj => absurd hj (by omega)), Below.refl _ _⟩
        case round =>
          obtain ⟨k, hk, rfl, HM, HBx⟩ := hrel
          by_cases hlt : k < ts.length
          · have h9 : (k : Int) < (ts.length : Int) := by omega
            obtain ⟨x, hx⟩ : ∃ x, ts[k]? = some x := ⟨_, List.getElem?_eq_getElem hlt⟩
            have HX := hide hx
            obtain ⟨b, off, mx, ea, h3, hmx⟩ := ((unhide HT).later (below_step (unhide H01) (unhide HBx))).get hx
            have HLD := hide h3.load
            have hba := below_alloc (Below.refl _ wr) (x.box mx)
            have HBa := hide hba
            have HL2 := hide (Tri.new wr x mx).load
            have c1 := clater ((unhide HE1).later (unhide HBx)).c1 hba
            simp only [Nat.zero_add] at c1
            have HKO := hide (kindsOf_any x mx (wr.alloc (x.box mx)) (unhide HFT x (List.mem_of_getElem? hx)).c (hmx.c.later hba))
            rw [Tb.val_open] at HLD HL2 HKO
            unfold Tb.box at HBa HL2 HKO c1
            rw [ea]
            clear hx h3 hmx hba ea
            by_cases hn : x.name = p.tab
            · have hq : (x.name.toList == p.tab.toList) = true := (eq_bytes _ _).trans (decide_eq_true hn)
              have HRZ : Hid (RR = (0, x.cols.map Prod.snd)) := by
                show _ = _
                rw [unhide HRQ]
                unfold tabE
                rw [find_at (unhide HM) (unhide HX) (decide_eq_true hn)]
              obtain ⟨kc, hkc⟩ : ∃ kc, kc = x.cols.map Prod.snd := ⟨_, rfl⟩
              rw [← hkc] at HKO HRZ
              clear HM HX hn hkc
              go_wp2_with (first
                | (refine wpList_load_w ?_ 45 (.tmp 46) rfl _ (by simp [Act.eval]) _ (unhide HLD) ?_; · simp [Region.wanted, yielded])
                | (refine wpList_load_w ?_ 45 (.tmp 12) rfl _ (by simp [Act.eval]) _ (unhide HL2) ?_; · simp [Region.wanted, yielded])
                | (go_at_call 14; refine (unhide HKO).mono ?_; rintro r w5 ⟨a5, c5, rfl, hO5, hb5⟩))
              refine bodyPost_ret (v := .tuple #[.slice a5 kc.length c5, .int .i64 0]) (by simp [results, Tryz.results17, go_sem]) rfl ?_
              rw [unhide HRZ]
              exact CkQ.own hO5 (Nat.le_trans (unhide HB1).size (below_step (unhide HBx) (unhide HBa)).size) (below_step (unhide HB1) (below_step (unhide HBx) (below_step (unhide HBa) hb5)))
            · have hq : (x.name.toList == p.tab.toList) = false := (eq_bytes _ _).trans (decide_eq_false hn)
              have HM2 : Hid (∀ (j : Nat) y, j < k + 1 → ts[j]? = some y → decide (y.name = p.tab) = false) := by
                intro j y hj hy
                rcases Nat.lt_or_eq_of_le (Nat.le_of_lt_succ hj) with h | rfl
                · exact unhide HM j y h hy
                · rw [unhide HX] at hy; injection hy with hy; rw [← hy]; exact decide_eq_false hn
              clear HM HX hn
              go_wp2_with (refine wpList_load_w ?_ 45 (.tmp 46) rfl _ (by simp [Act.eval]) _ (unhide HLD) ?_; · simp [Region.wanted, yielded])
              exact ⟨⟨k + 1, by omega, by go_num, unhide HM2, below_step (unhide HBx) (unhide HBa)⟩, by simp [intOf]; omega⟩
          · have h9 : ¬ (k : Int) < (ts.length : Int) := by omega
            have HRZ : Hid (RR = (8, [])) := by
              show _ = _
              rw [unhide HRQ]
              unfold tabE
              have : ts.find? (fun t => decide (t.name = p.tab)) = none := by
                rw [List.find?_eq_none]
                intro y hy
                obtain ⟨i, hi, rfl⟩ := List.mem_iff_getElem.1 hy
                have := unhide HM i _ (by omega) (List.getElem?_eq_getElem hi)
                rw [this]
                decide
              rw [this]
            clear HM
            go_wp2
            refine bodyPost_ret (v := .tuple #[.slice none 0 0, .int .i64 8]) (by simp [results, Tryz.results17, go_sem]) rfl ?_
            rw [unhide HRZ]
            exact CkQ.err (by decide) (below_step (unhide HB1) (unhide HBx))
      · obtain ⟨hla, hle⟩ := need2 o (unhide HND)
        have hRR : RR = (condP (in0 (xs.map fun x => x.2.2)) p, in0 (xs.map fun x => x.2.2)) := by rw [unhide HR]; unfold chkOp; rw [o]; rfl
        have e1 : (p.op == 1) = false := by rw [o]; rfl
        have e12 : (p.op == 12) = false := by rw [o]; rfl
        have e8 : (p.op == 8) = false := by rw [o]; rfl
        have e11 : (p.op == 11) = false := by rw [o]; rfl
        have e2 : (p.op == 2) = true := by rw [o]; rfl
        obtain ⟨x0, hx0⟩ : ∃ x, xs[0]? = some x := ⟨_, List.getElem?_eq_getElem (by have := unhide HXL; omega)⟩
        obtain ⟨g, rfl, d0, hk0, hg0⟩ := (unhide HIN).get hx0
        have HK0 := hide hk0
        have HKO := hide (unhide HKS x0 (List.mem_of_getElem? hx0))
        have HS0X := hide (unhide HSP x0 (List.mem_of_getElem? hx0))
        have HI0 : Hid (in0 (xs.map fun x => x.2.2) = x0.2.2) := by show _ = _; unfold in0; rw [List.getElem?_map, hx0]; rfl
        obtain ⟨ax, cx, k0⟩ := x0
        simp only at d0 HK0 HKO HS0X HI0
        have hN0 : (0 : Int) < (p.args.length : Int) := by omega
        have hk0l : k0.length ≤ 32 := (unhide HKO).hi
        clear hx0 hk0 hg0
        obtain ⟨e, he⟩ : ∃ e, p.ex[0]? = some e := ⟨_, List.getElem?_eq_getElem (by omega)⟩
        obtain ⟨vb, vo, ea, hat⟩ := Ex.all_get (unhide HA1).o.e he
        obtain ⟨a', c', ⟨x0, x1, x2, x3, x4, x5⟩, hal⟩ := Ex.at_open hat
        simp only [Nat.zero_mul, Nat.add_zero] at x0 x1 x2 x3 x4 x5
        have HAL := hide hal
        have HEF := hide (Ex.fins_mem (unhide HFX) (List.mem_of_getElem? he))
        have hX0 : (0 : Int) < (p.ex.length : Int) := by omega
        rw [ea] at c2
        have HC := hide (fun (W : World) (hW : Below wr.heap.size wr W) => condition_any k0 (by omega) ax cx e (unhide HEF) a' c' W (Ex.all_later _ (unhide HAL) hW) ((unhide HK0).later hW))
        rw [unhide HI0] at hRR
        have hcp : condP k0 p = condE k0 e := by unfold condP; rw [he]
        rw [hcp] at hRR
        rw [Ex.val_open] at HC
        generalize condE k0 e = ce at *
        have HRQ := hide hRR
        have q0 := cell_regrown d0
        have qb := cell_regrown c2
        have y0 := cell_regrown x0
        have y1 := cell_regrown x1
        have y2 := cell_regrown x2
        have y3 := cell_regrown x3
        have y4 := cell_regrown x4
        have y5 := cell_regrown x5
        clear o hla hle c3x c4 c5 c6 c7 c8 c9 HR hRR he hat hal hcp
        go_upto_region 31 with fail
        refine wp_region_quiet_below (by kernel_rfl) (by kernel_rfl) ?_
        repeat (go_big_quiet_step ((go_at_call 33; exact Calls.regrown_of (unhide HC _ (below_regrown _ _ _)))))
        refine wpQuiet_nil ?_
        intro w2 hw2
        have hB2 : Below wr.heap.size wr w2 := by obtain ⟨p, rfl⟩ := hw2; exact below_regrown _ _ _
        clear hw2
        go_wp2
        refine bodyPost_ret (v := .tuple #[.slice ax k0.length cx, .int .i64 ce]) (by simp [results, Tryz.results17, go_sem]) rfl ?_
        rw [unhide HRQ]
        exact CkQ.old ((unhide HK0).later hB2) (unhide HS0X) (below_step (unhide HB1) hB2)
      · obtain ⟨hla, hle, hle2⟩ := need3 o (unhide HND)
        have hRR : RR = (projE (in0 (xs.map fun x => x.2.2)) p.ex, projK (in0 (xs.map fun x => x.2.2)) p.ex) := by rw [unhide HR]; unfold chkOp; rw [o]; rfl
        have e1 : (p.op == 1) = false := by rw [o]; rfl
        have e12 : (p.op == 12) = false := by rw [o]; rfl
        have e8 : (p.op == 8) = false := by rw [o]; rfl
        have e11 : (p.op == 11) = false := by rw [o]; rfl
        have e2 : (p.op == 2) = false := by rw [o]; rfl
        have e3 : (p.op == 3) = true := by rw [o]; rfl
        obtain ⟨x0, hx0⟩ : ∃ x, xs[0]? = some x := ⟨_, List.getElem?_eq_getElem (by have := unhide HXL; omega)⟩
        obtain ⟨g, rfl, d0, hk0, hg0⟩ := (unhide HIN).get hx0
        have HK0 := hide hk0
        have HKO := hide (unhide HKS x0 (List.mem_of_getElem? hx0))
        have HS0X := hide (unhide HSP x0 (List.mem_of_getElem? hx0))
        have HI0 : Hid (in0 (xs.map fun x => x.2.2) = x0.2.2) := by show _ = _; unfold in0; rw [List.getElem?_map, hx0]; rfl
        obtain ⟨ax, cx, k0⟩ := x0
        simp only at d0 HK0 HKO HS0X HI0
        have hN0 : (0 : Int) < (p.args.length : Int) := by omega
        have hk0l : k0.length ≤ 32 := (unhide HKO).hi
        clear hx0 hk0 hg0
        have HC := hide (fun (W : World) (hW : Below wr.heap.size wr W) => projected_any k0 (by omega) ax cx p.ex f2 (unhide HFX) m.aE m.cE W (Ex.all_later _ (unhide HA1).o.e hW) ((unhide HK0).later hW))
        have HC2 := hide c2
        rw [unhide HI0] at hRR
        generalize projE k0 p.ex = pe at *
        generalize projK k0 p.ex = pk at *
        have HRQ := hide hRR
        have HD0 := hide d0
        clear o hla hle hle2 c2 c3x c4 c5 c6 c7 c8 c9 HR hRR
        go_upto_region 33 with fail
        have HS0 := hide ((Below.refl wr.heap.size wr).drew)
        refine wp_region_noPanic ?_
        refine wp_region_G (S := fun w' : World => Below wr.heap.size wr w') (k := 9) (by kernel_rfl) ?_
        refine anyG_takel (i := 0) (v := (.pointer (some ⟨w.heap.size, 2, none⟩))) [1, 5, 6, 7, 8, 9] rfl (by kernel_rfl) (by kernel_rfl) (by kernel_rfl) (by kernel_rfl) (fun _ _ _ h => h) (Or.inl ⟨by rfl, fun w' hSw => ?_⟩) (unhide HS0) ?_
        · go_simp
        try simp only [Act.put, List.setIfInBounds_toArray, List.set_cons_zero, List.set_cons_succ]
        refine anyG_takel (i := 1) (v := (.slice m.aE p.ex.length m.cE)) [5, 6, 7, 8, 9] rfl (by kernel_rfl) (by kernel_rfl) (by kernel_rfl) (by kernel_rfl) (fun _ _ _ h => h) (Or.inl ⟨by rfl, fun w' hSw => ?_⟩) (unhide HS0) ?_
        · have e5 := clater (unhide HC2) hSw; go_simp
        try simp only [Act.put, List.setIfInBounds_toArray, List.set_cons_zero, List.set_cons_succ]
        refine anyG_takel (i := 2) (v := (.slice (some ⟨g, 0, none⟩) p.args.length c3)) [3, 4, 5, 6, 7, 8, 9] rfl (by kernel_rfl) (by kernel_rfl) (by kernel_rfl) (by kernel_rfl) (fun _ _ _ h => h) (Or.inl ⟨by rfl, fun w' hSw => ?_⟩) (unhide HS0) ?_
        · go_simp
        try simp only [Act.put, List.setIfInBounds_toArray, List.set_cons_zero, List.set_cons_succ]
        refine anyG_takel (i := 3) (v := (.pointer (some ⟨g, 0, none⟩))) [4, 5, 6, 7, 8, 9] rfl (by kernel_rfl) (by kernel_rfl) (by kernel_rfl) (by kernel_rfl) (fun _ _ _ h => h) (Or.inl ⟨by rfl, fun w' hSw => ?_⟩) (unhide HS0) ?_
        · (try go_simp); intro h; exact absurd hN0 (by rw [h]; simp)
        try simp only [Act.put, List.setIfInBounds_toArray, List.set_cons_zero, List.set_cons_succ]
        refine anyG_takel (i := 4) (v := (.slice ax k0.length cx)) [5, 6, 7, 8, 9] rfl (by kernel_rfl) (by kernel_rfl) (by kernel_rfl) (by kernel_rfl) (fun _ _ _ h => h) (Or.inl ⟨by rfl, fun w' hSw => ?_⟩) (unhide HS0) ?_
        · have e5 := clater (unhide HD0) hSw; go_simp
        try simp only [Act.put, List.setIfInBounds_toArray, List.set_cons_zero, List.set_cons_succ]
        refine anyG_one (i := 5) (by kernel_rfl) ?_
        refine wpOp_lit rfl (by rfl) fun K' hK' => ?_
        go_simp
        refine (unhide HC _ (unhide HS0)).mono ?_
        rintro r w3 ⟨aq, cq, Mq, rfl, q1, q2, q3⟩
        go_simp
        have HQ : Hid (PjQ pk pe wr.drew (.returned (.tuple #[.slice aq Mq.length cq, .int .i64 pe])) w3) := ⟨aq, cq, Mq, rfl, q1, q2, q3⟩
        have HS1 := hide (below_step (unhide HS0) q3)
        clear q1 q2 q3
        refine unhide hK' _ _ ⟨fun _ => unhide HS1, ?_⟩
        clear hK' K'
        refine anyG_takel (i := 6) (v := (.slice aq Mq.length cq)) [8, 9] rfl (by kernel_rfl) (by kernel_rfl) (by kernel_rfl) (by kernel_rfl) (fun _ _ _ h => h) (Or.inl ⟨by rfl, fun w' hSw => ?_⟩) (unhide HS1) ?_
        · go_simp
        try simp only [Act.put, List.setIfInBounds_toArray, List.set_cons_zero, List.set_cons_succ]
        refine anyG_takel (i := 7) (v := (.int .i64 pe)) [8, 9] rfl (by kernel_rfl) (by kernel_rfl) (by kernel_rfl) (by kernel_rfl) (fun _ _ _ h => h) (Or.inl ⟨by rfl, fun w' hSw => ?_⟩) (unhide HS1) ?_
        · go_simp
        try simp only [Act.put, List.setIfInBounds_toArray, List.set_cons_zero, List.set_cons_succ]
        refine anyG_one (i := 8) (by kernel_rfl) ?_
        refine wpOp_lit rfl (by rfl) fun K' hK' => ?_
        go_simp
        refine unhide hK' _ _ ⟨fun _ => unhide HS1, ?_⟩
        clear hK' K'
        refine anyG_one (i := 9) (by kernel_rfl) ?_
        refine wpOp_lit rfl (by rfl) fun K' hK' => ?_
        go_simp
        refine unhide hK' _ _ ⟨fun hh => absurd hh (by decide), ?_⟩
        clear hK' K'
        refine anyG_done (by kernel_rfl) ?_ _
        refine NoPanic.normal ?_
        go_wp2
        refine bodyPost_ret (v := .tuple #[.slice aq Mq.length cq, .int .i64 pe]) (by simp [results, Tryz.results17, go_sem]) rfl ?_
        rw [unhide HRQ]
        exact CkQ.pj (unhide HQ) (below_step (unhide HB1) (Below.refl wr.heap.size wr).drew)
      · obtain ⟨hla, hle⟩ := need4 o (unhide HND)
        have hRR : RR = (joinE (in0 (xs.map fun x => x.2.2) ++ in1 (xs.map fun x => x.2.2)) p, in0 (xs.map fun x => x.2.2) ++ in1 (xs.map fun x => x.2.2)) := by rw [unhide HR]; unfold chkOp; rw [o]; rfl
        have e1 : (p.op == 1) = false := by rw [o]; rfl
        have e12 : (p.op == 12) = false := by rw [o]; rfl
        have e8 : (p.op == 8) = false := by rw [o]; rfl
        have e11 : (p.op == 11) = false := by rw [o]; rfl
        have e2 : (p.op == 2) = false := by rw [o]; rfl
        have e3 : (p.op == 3) = false := by rw [o]; rfl
        have e4 : (p.op == 4) = true := by rw [o]; rfl
        obtain ⟨x0, hx0⟩ : ∃ x, xs[0]? = some x := ⟨_, List.getElem?_eq_getElem (by have := unhide HXL; omega)⟩
        obtain ⟨g, rfl, d0, hk0, hg0⟩ := (unhide HIN).get hx0
        have HK0 := hide hk0
        have HKO := hide (unhide HKS x0 (List.mem_of_getElem? hx0))
        have HS0X := hide (unhide HSP x0 (List.mem_of_getElem? hx0))
        have HI0 : Hid (in0 (xs.map fun x => x.2.2) = x0.2.2) := by show _ = _; unfold in0; rw [List.getElem?_map, hx0]; rfl
        obtain ⟨ax, cx, k0⟩ := x0
        simp only at d0 HK0 HKO HS0X HI0
        have hN0 : (0 : Int) < (p.args.length : Int) := by omega
        have hk0l : k0.length ≤ 32 := (unhide HKO).hi
        clear hx0 hk0 hg0
        obtain ⟨x1, hx1⟩ : ∃ x, xs[1]? = some x := ⟨_, List.getElem?_eq_getElem (by have := unhide HXL; omega)⟩
        obtain ⟨g', e', d1, hk1, _⟩ := (unhide HIN).get hx1
        injection e' with e'
        injection e' with e'
        subst e'
        have HK1 := hide hk1
        have HKO1 := hide (unhide HKS x1 (List.mem_of_getElem? hx1))
        have HI1 : Hid (in1 (xs.map fun x => x.2.2) = x1.2.2) := by show _ = _; unfold in1; rw [List.getElem?_map, hx1]; rfl
        obtain ⟨ay, cy, k1⟩ := x1
        simp only at d1 HK1 HKO1 HI1
        have hN1 : (1 : Int) < (p.args.length : Int) := by omega
        have hk1l : k1.length ≤ 32 := (unhide HKO1).hi
        clear hx1 hk1
        obtain ⟨e, he⟩ : ∃ e, p.ex[0]? = some e := ⟨_, List.getElem?_eq_getElem (by omega)⟩
        obtain ⟨vb, vo, ea, hat⟩ := Ex.all_get (unhide HA1).o.e he
        obtain ⟨a', c', ⟨x0, x1, x2, x3, x4, x5⟩, hal⟩ := Ex.at_open hat
        simp only [Nat.zero_mul, Nat.add_zero] at x0 x1 x2 x3 x4 x5
        have HAL := hide hal
        have HEF := hide (Ex.fins_mem (unhide HFX) (List.mem_of_getElem? he))
        have hX0 : (0 : Int) < (p.ex.length : Int) := by omega
        rw [ea] at c2
        rw [unhide HI0, unhide HI1] at hRR
        obtain ⟨bs, hbs⟩ : ∃ bs, bs = k0 ++ k1 := ⟨_, rfl⟩
        have hbl : bs.length ≤ 64 := by rw [hbs, List.length_append]; omega
        rw [← hbs] at hRR
        have HBS := hide hbs
        have HX6 := hide (And.intro x0 (And.intro x1 (And.intro x2 (And.intro x3 (And.intro x4 x5)))))
        have HD0 := hide d0
        have HD1 := hide d1
        have HC2 := hide c2
        obtain ⟨ce, hce⟩ : ∃ ce, ce = condE bs e := ⟨_, rfl⟩
        have hj : joinE bs p = if ce != 1 && decide (32 < bs.length) then 1 else ce := by
          have hcp : condP bs p = ce := by unfold condP; rw [he, hce]
          unfold joinE; rw [hcp]
        rw [hj] at hRR
        have HRQ := hide hRR
        have HCE := hide hce
        have HCC := hide (fun (W : World) (hW : Below wr.heap.size wr W) (a5 : Option Addr) (c5 : Nat) (h5 : IntsAt W a5 bs) => condition_any bs (by omega) a5 c5 e (unhide HEF) a' c' W (Ex.all_later _ (unhide HAL) hW) h5)
        rw [← hce, Ex.val_open] at HCC
        clear o hla hle c2 c3x c4 c5 c6 c7 c8 c9 HR hRR he hat hal hbs hj hce x0 x1 x2 x3 x4 x5 d0 d1
        go_upto_region 36 with fail
        have HS0 := hide ((Below.refl wr.heap.size wr).drew)
        refine wp_region_noPanic ?_
        refine wp_region_G (S := fun w' : World => Below wr.heap.size wr w') (k := 9) (by kernel_rfl) ?_
        refine anyG_takel (i := 1) (v := (.slice (some ⟨g, 0, none⟩) p.args.length c3)) [2, 3, 4, 8, 9] rfl (by kernel_rfl) (by kernel_rfl) (by kernel_rfl) (by kernel_rfl) (fun _ _ _ h => h) (Or.inl ⟨by rfl, fun w' hSw => ?_⟩) (unhide HS0) ?_
        · go_simp
        try simp only [Act.put, List.setIfInBounds_toArray, List.set_cons_zero, List.set_cons_succ]
        refine anyG_takel (i := 2) (v := (.pointer (some ⟨g, 0, none⟩))) [3, 4, 8, 9] rfl (by kernel_rfl) (by kernel_rfl) (by kernel_rfl) (by kernel_rfl) (fun _ _ _ h => h) (Or.inl ⟨by rfl, fun w' hSw => ?_⟩) (unhide HS0) ?_
        · (try go_simp); intro h; exact absurd hN0 (by rw [h]; simp)
        try simp only [Act.put, List.setIfInBounds_toArray, List.set_cons_zero, List.set_cons_succ]
        refine anyG_takel (i := 3) (v := (.slice ax k0.length cx)) [4, 8, 9] rfl (by kernel_rfl) (by kernel_rfl) (by kernel_rfl) (by kernel_rfl) (fun _ _ _ h => h) (Or.inl ⟨by rfl, fun w' hSw => ?_⟩) (unhide HS0) ?_
        · have e5 := clater (unhide HD0) hSw; go_simp
        try simp only [Act.put, List.setIfInBounds_toArray, List.set_cons_zero, List.set_cons_succ]
        refine anyG_takel (i := 5) (v := (.slice (some ⟨g, 0, none⟩) p.args.length c3)) [6, 7, 8, 9] rfl (by kernel_rfl) (by kernel_rfl) (by kernel_rfl) (by kernel_rfl) (fun _ _ _ h => h) (Or.inl ⟨by rfl, fun w' hSw => ?_⟩) (unhide HS0) ?_
        · go_simp
        try simp only [Act.put, List.setIfInBounds_toArray, List.set_cons_zero, List.set_cons_succ]
        refine anyG_takel (i := 6) (v := (.pointer (some ⟨g, 1, none⟩))) [7, 8, 9] rfl (by kernel_rfl) (by kernel_rfl) (by kernel_rfl) (by kernel_rfl) (fun _ _ _ h => h) (Or.inl ⟨by rfl, fun w' hSw => ?_⟩) (unhide HS0) ?_
        · go_simp
        try simp only [Act.put, List.setIfInBounds_toArray, List.set_cons_zero, List.set_cons_succ]
        refine anyG_takel (i := 7) (v := (.slice ay k1.length cy)) [8, 9] rfl (by kernel_rfl) (by kernel_rfl) (by kernel_rfl) (by kernel_rfl) (fun _ _ _ h => h) (Or.inl ⟨by rfl, fun w' hSw => ?_⟩) (unhide HS0) ?_
        · have e5 := clater (unhide HD1) hSw; go_simp
        try simp only [Act.put, List.setIfInBounds_toArray, List.set_cons_zero, List.set_cons_succ]
        refine anyG_one (i := 0) (by kernel_rfl) ?_
        refine wpOp_lit rfl (by rfl) fun K' hK' => ?_
        go_simp
        have HSa := hide (below_alloc (unhide HS0) (.cells #[] 3))
        refine unhide hK' _ _ ⟨fun _ => unhide HSa, ?_⟩
        clear hK' K'
        refine anyG_one (i := 4) (by kernel_rfl) ?_
        refine wpOp_lit rfl (by rfl) fun K' hK' => ?_
        refine op_push_far (.tmp 106) (.tmp 109) rfl wr.heap.size _ [] k0 ax cx rfl (own_empty wr.drew wr.heap.size (Nat.le_refl _)) rfl ((unhide HK0).later (unhide HSa)) (by simp; omega) (unhide HSa).size ?_
        intro v4 w4 hO4 hB4
        rw [List.nil_append] at hO4
        have HO4 := hide hO4
        have HS4 := hide ((unhide HSa).trans hB4)
        clear hO4 hB4
        try simp only [Act.put, List.setIfInBounds_toArray, List.set_cons_zero, List.set_cons_succ]
        refine unhide hK' _ _ ⟨fun _ => unhide HS4, ?_⟩
        clear hK' K'
        refine anyG_one (i := 8) (by kernel_rfl) ?_
        refine wpOp_lit rfl (by rfl) fun K' hK' => ?_
        refine op_push_far (.tmp 110) (.tmp 113) rfl wr.heap.size _ k0 k1 ay cy rfl (unhide HO4) rfl ((unhide HK1).later (unhide HS4)) (by omega) (unhide HS4).size ?_
        intro v5 w5 hO5 hB5
        rw [← unhide HBS] at hO5
        obtain ⟨a5, c5, rfl⟩ := hO5.slice
        have HO5 := hide hO5
        have HS5 := hide ((unhide HS4).trans hB5)
        have HCD := hide (unhide HCC w5 (unhide HS5) a5 c5 hO5.ints)
        clear hO5 hB5
        try simp only [Act.put, List.setIfInBounds_toArray, List.set_cons_zero, List.set_cons_succ]
        refine unhide hK' _ _ ⟨fun _ => unhide HS5, ?_⟩
        clear hK' K'
        refine anyG_one (i := 9) (by kernel_rfl) ?_
        refine wpOp_lit rfl (by rfl) fun K' hK' => ?_
        go_simp
        refine unhide hK' _ _ ⟨fun hh => absurd hh (by decide), ?_⟩
        clear hK' K'
        refine anyG_done (by kernel_rfl) ?_ _
        refine NoPanic.normal ?_
        obtain ⟨x0, x1, x2, x3, x4, x5⟩ := unhide HX6
        have y0 := clater x0 (unhide HS5)
        have y1 := clater x1 (unhide HS5)
        have y2 := clater x2 (unhide HS5)
        have y3 := clater x3 (unhide HS5)
        have y4 := clater x4 (unhide HS5)
        have y5 := clater x5 (unhide HS5)
        clear x0 x1 x2 x3 x4 x5
        have y9 := clater (unhide HC2) (unhide HS5)
        by_cases hc1 : ce = 1
        · have HRZ : Hid (RR = (1, bs)) := by show _ = _; rw [unhide HRQ, hc1]; rfl
          subst hc1
          go_wp2_with (go_at_call 33; refine (unhide HCD).mono ?_; rintro r w6 ⟨rfl, hb6⟩)
          refine bodyPost_ret (v := .tuple #[.slice a5 bs.length c5, .int .i64 1]) (by simp [results, Tryz.results17, go_sem]) rfl ?_
          rw [unhide HRZ]
          exact CkQ.own ((unhide HO5).later hb6) (unhide HB1).size (below_step (unhide HB1) (below_step (unhide HS5) hb6))
        · have bc : (ce != 1) = true := by simpa using hc1
          by_cases h32 : 32 < bs.length
          · have HRZ : Hid (RR = (1, bs)) := by show _ = _; rw [unhide HRQ, bc, decide_eq_true h32]; rfl
            have h33 : (32 : Int) < (bs.length : Int) := by omega
            clear hc1 h32
            go_wp2_with (go_at_call 33; refine (unhide HCD).mono ?_; rintro r w6 ⟨rfl, hb6⟩)
            refine bodyPost_ret (v := .tuple #[.slice a5 bs.length c5, .int .i64 1]) (by simp [results, Tryz.results17, go_sem]) rfl ?_
            rw [unhide HRZ]
            exact CkQ.own ((unhide HO5).later hb6) (unhide HB1).size (below_step (unhide HB1) (below_step (unhide HS5) hb6))
          · have HRZ : Hid (RR = (ce, bs)) := by show _ = _; rw [unhide HRQ, bc, decide_eq_false h32]; rfl
            have h33 : (bs.length : Int) ≤ 32 := by omega
            clear hc1 h32
            go_wp2_with (go_at_call 33; refine (unhide HCD).mono ?_; rintro r w6 ⟨rfl, hb6⟩)
            refine bodyPost_ret (v := .tuple #[.slice a5 bs.length c5, .int .i64 ce]) (by simp [results, Tryz.results17, go_sem]) rfl ?_
            rw [unhide HRZ]
            exact CkQ.own ((unhide HO5).later hb6) (unhide HB1).size (below_step (unhide HB1) (below_step (unhide HS5) hb6))
      · obtain ⟨hla, hle⟩ := need5 o (unhide HND)
        have hRR : RR = (joinE (in0 (xs.map fun x => x.2.2) ++ in1 (xs.map fun x => x.2.2)) p, in0 (xs.map fun x => x.2.2) ++ in1 (xs.map fun x => x.2.2)) := by rw [unhide HR]; unfold chkOp; rw [o]; rfl
        have e1 : (p.op == 1) = false := by rw [o]; rfl
        have e12 : (p.op == 12) = false := by rw [o]; rfl
        have e8 : (p.op == 8) = false := by rw [o]; rfl
        have e11 : (p.op == 11) = false := by rw [o]; rfl
        have e2 : (p.op == 2) = false := by rw [o]; rfl
        have e3 : (p.op == 3) = false := by rw [o]; rfl
        have e4 : (p.op == 4) = false := by rw [o]; rfl
        have e5 : (p.op == 5) = true := by rw [o]; rfl
        obtain ⟨x0, hx0⟩ : ∃ x, xs[0]? = some x := ⟨_, List.getElem?_eq_getElem (by have := unhide HXL; omega)⟩
        obtain ⟨g, rfl, d0, hk0, hg0⟩ := (unhide HIN).get hx0
        have HK0 := hide hk0
        have HKO := hide (unhide HKS x0 (List.mem_of_getElem? hx0))
        have HS0X := hide (unhide HSP x0 (List.mem_of_getElem? hx0))
        have HI0 : Hid (in0 (xs.map fun x => x.2.2) = x0.2.2) := by show _ = _; unfold in0; rw [List.getElem?_map, hx0]; rfl
        obtain ⟨ax, cx, k0⟩ := x0
        simp only at d0 HK0 HKO HS0X HI0
        have hN0 : (0 : Int) < (p.args.length : Int) := by omega
        have hk0l : k0.length ≤ 32 := (unhide HKO).hi
        clear hx0 hk0 hg0
        obtain ⟨x1, hx1⟩ : ∃ x, xs[1]? = some x := ⟨_, List.getElem?_eq_getElem (by have := unhide HXL; omega)⟩
        obtain ⟨g', e', d1, hk1, _⟩ := (unhide HIN).get hx1
        injection e' with e'
        injection e' with e'
        subst e'
        have HK1 := hide hk1
        have HKO1 := hide (unhide HKS x1 (List.mem_of_getElem? hx1))
        have HI1 : Hid (in1 (xs.map fun x => x.2.2) = x1.2.2) := by show _ = _; unfold in1; rw [List.getElem?_map, hx1]; rfl
        obtain ⟨ay, cy, k1⟩ := x1
        simp only at d1 HK1 HKO1 HI1
        have hN1 : (1 : Int) < (p.args.length : Int) := by omega
        have hk1l : k1.length ≤ 32 := (unhide HKO1).hi
        clear hx1 hk1
        obtain ⟨e, he⟩ : ∃ e, p.ex[0]? = some e := ⟨_, List.getElem?_eq_getElem (by omega)⟩
        obtain ⟨vb, vo, ea, hat⟩ := Ex.all_get (unhide HA1).o.e he
        obtain ⟨a', c', ⟨x0, x1, x2, x3, x4, x5⟩, hal⟩ := Ex.at_open hat
        simp only [Nat.zero_mul, Nat.add_zero] at x0 x1 x2 x3 x4 x5
        have HAL := hide hal
        have HEF := hide (Ex.fins_mem (unhide HFX) (List.mem_of_getElem? he))
        have hX0 : (0 : Int) < (p.ex.length : Int) := by omega
        rw [ea] at c2
        rw [unhide HI0, unhide HI1] at hRR
        obtain ⟨bs, hbs⟩ : ∃ bs, bs = k0 ++ k1 := ⟨_, rfl⟩
        have hbl : bs.length ≤ 64 := by rw [hbs, List.length_append]; omega
        rw [← hbs] at hRR
        have HBS := hide hbs
        have HX6 := hide (And.intro x0 (And.intro x1 (And.intro x2 (And.intro x3 (And.intro x4 x5)))))
        have HD0 := hide d0
        have HD1 := hide d1
        have HC2 := hide c2
        obtain ⟨ce, hce⟩ : ∃ ce, ce = condE bs e := ⟨_, rfl⟩
        have hj : joinE bs p = if ce != 1 && decide (32 < bs.length) then 1 else ce := by
          have hcp : condP bs p = ce := by unfold condP; rw [he, hce]
          unfold joinE; rw [hcp]
        rw [hj] at hRR
        have HRQ := hide hRR
        have HCE := hide hce
        have HCC := hide (fun (W : World) (hW : Below wr.heap.size wr W) (a5 : Option Addr) (c5 : Nat) (h5 : IntsAt W a5 bs) => condition_any bs (by omega) a5 c5 e (unhide HEF) a' c' W (Ex.all_later _ (unhide HAL) hW) h5)
        rw [← hce, Ex.val_open] at HCC
        clear o hla hle c2 c3x c4 c5 c6 c7 c8 c9 HR hRR he hat hal hbs hj hce x0 x1 x2 x3 x4 x5 d0 d1
        go_upto_region 36 with fail
        have HS0 := hide ((Below.refl wr.heap.size wr).drew)
        refine wp_region_noPanic ?_
        refine wp_region_G (S := fun w' : World => Below wr.heap.size wr w') (k := 9) (by kernel_rfl) ?_
        refine anyG_takel (i := 1) (v := (.slice (some ⟨g, 0, none⟩) p.args.length c3)) [2, 3, 4, 8, 9] rfl (by kernel_rfl) (by kernel_rfl) (by kernel_rfl) (by kernel_rfl) (fun _ _ _ h => h) (Or.inl ⟨by rfl, fun w' hSw => ?_⟩) (unhide HS0) ?_
        · go_simp
        try simp only [Act.put, List.setIfInBounds_toArray, List.set_cons_zero, List.set_cons_succ]
        refine anyG_takel (i := 2) (v := (.pointer (some ⟨g, 0, none⟩))) [3, 4, 8, 9] rfl (by kernel_rfl) (by kernel_rfl) (by kernel_rfl) (by kernel_rfl) (fun _ _ _ h => h) (Or.inl ⟨by rfl, fun w' hSw => ?_⟩) (unhide HS0) ?_
        · (try go_simp); intro h; exact absurd hN0 (by rw [h]; simp)
        try simp only [Act.put, List.setIfInBounds_toArray, List.set_cons_zero, List.set_cons_succ]
        refine anyG_takel (i := 3) (v := (.slice ax k0.length cx)) [4, 8, 9] rfl (by kernel_rfl) (by kernel_rfl) (by kernel_rfl) (by kernel_rfl) (fun _ _ _ h => h) (Or.inl ⟨by rfl, fun w' hSw => ?_⟩) (unhide HS0) ?_
        · have e5 := clater (unhide HD0) hSw; go_simp
        try simp only [Act.put, List.setIfInBounds_toArray, List.set_cons_zero, List.set_cons_succ]
        refine anyG_takel (i := 5) (v := (.slice (some ⟨g, 0, none⟩) p.args.length c3)) [6, 7, 8, 9] rfl (by kernel_rfl) (by kernel_rfl) (by kernel_rfl) (by kernel_rfl) (fun _ _ _ h => h) (Or.inl ⟨by rfl, fun w' hSw => ?_⟩) (unhide HS0) ?_
        · go_simp
        try simp only [Act.put, List.setIfInBounds_toArray, List.set_cons_zero, List.set_cons_succ]
        refine anyG_takel (i := 6) (v := (.pointer (some ⟨g, 1, none⟩))) [7, 8, 9] rfl (by kernel_rfl) (by kernel_rfl) (by kernel_rfl) (by kernel_rfl) (fun _ _ _ h => h) (Or.inl ⟨by rfl, fun w' hSw => ?_⟩) (unhide HS0) ?_
        · go_simp
        try simp only [Act.put, List.setIfInBounds_toArray, List.set_cons_zero, List.set_cons_succ]
        refine anyG_takel (i := 7) (v := (.slice ay k1.length cy)) [8, 9] rfl (by kernel_rfl) (by kernel_rfl) (by kernel_rfl) (by kernel_rfl) (fun _ _ _ h => h) (Or.inl ⟨by rfl, fun w' hSw => ?_⟩) (unhide HS0) ?_
        · have e5 := clater (unhide HD1) hSw; go_simp
        try simp only [Act.put, List.setIfInBounds_toArray, List.set_cons_zero, List.set_cons_succ]
        refine anyG_one (i := 0) (by kernel_rfl) ?_
        refine wpOp_lit rfl (by rfl) fun K' hK' => ?_
        go_simp
        have HSa := hide (below_alloc (unhide HS0) (.cells #[] 3))
        refine unhide hK' _ _ ⟨fun _ => unhide HSa, ?_⟩
        clear hK' K'
        refine anyG_one (i := 4) (by kernel_rfl) ?_
        refine wpOp_lit rfl (by rfl) fun K' hK' => ?_
        refine op_push_far (.tmp 106) (.tmp 109) rfl wr.heap.size _ [] k0 ax cx rfl (own_empty wr.drew wr.heap.size (Nat.le_refl _)) rfl ((unhide HK0).later (unhide HSa)) (by simp; omega) (unhide HSa).size ?_
        intro v4 w4 hO4 hB4
        rw [List.nil_append] at hO4
        have HO4 := hide hO4
        have HS4 := hide ((unhide HSa).trans hB4)
        clear hO4 hB4
        try simp only [Act.put, List.setIfInBounds_toArray, List.set_cons_zero, List.set_cons_succ]
        refine unhide hK' _ _ ⟨fun _ => unhide HS4, ?_⟩
        clear hK' K'
        refine anyG_one (i := 8) (by kernel_rfl) ?_
        refine wpOp_lit rfl (by rfl) fun K' hK' => ?_
        refine op_push_far (.tmp 110) (.tmp 113) rfl wr.heap.size _ k0 k1 ay cy rfl (unhide HO4) rfl ((unhide HK1).later (unhide HS4)) (by omega) (unhide HS4).size ?_
        intro v5 w5 hO5 hB5
        rw [← unhide HBS] at hO5
        obtain ⟨a5, c5, rfl⟩ := hO5.slice
        have HO5 := hide hO5
        have HS5 := hide ((unhide HS4).trans hB5)
        have HCD := hide (unhide HCC w5 (unhide HS5) a5 c5 hO5.ints)
        clear hO5 hB5
        try simp only [Act.put, List.setIfInBounds_toArray, List.set_cons_zero, List.set_cons_succ]
        refine unhide hK' _ _ ⟨fun _ => unhide HS5, ?_⟩
        clear hK' K'
        refine anyG_one (i := 9) (by kernel_rfl) ?_
        refine wpOp_lit rfl (by rfl) fun K' hK' => ?_
        go_simp
        refine unhide hK' _ _ ⟨fun hh => absurd hh (by decide), ?_⟩
        clear hK' K'
        refine anyG_done (by kernel_rfl) ?_ _
        refine NoPanic.normal ?_
        obtain ⟨x0, x1, x2, x3, x4, x5⟩ := unhide HX6
        have y0 := clater x0 (unhide HS5)
        have y1 := clater x1 (unhide HS5)
        have y2 := clater x2 (unhide HS5)
        have y3 := clater x3 (unhide HS5)
        have y4 := clater x4 (unhide HS5)
        have y5 := clater x5 (unhide HS5)
        clear x0 x1 x2 x3 x4 x5
        have y9 := clater (unhide HC2) (unhide HS5)
        by_cases hc1 : ce = 1
        · have HRZ : Hid (RR = (1, bs)) := by show _ = _; rw [unhide HRQ, hc1]; rfl
          subst hc1
          go_wp2_with (go_at_call 33; refine (unhide HCD).mono ?_; rintro r w6 ⟨rfl, hb6⟩)
          refine bodyPost_ret (v := .tuple #[.slice a5 bs.length c5, .int .i64 1]) (by simp [results, Tryz.results17, go_sem]) rfl ?_
          rw [unhide HRZ]
          exact CkQ.own ((unhide HO5).later hb6) (unhide HB1).size (below_step (unhide HB1) (below_step (unhide HS5) hb6))
        · have bc : (ce != 1) = true := by simpa using hc1
          by_cases h32 : 32 < bs.length
          · have HRZ : Hid (RR = (1, bs)) := by show _ = _; rw [unhide HRQ, bc, decide_eq_true h32]; rfl
            have h33 : (32 : Int) < (bs.length : Int) := by omega
            clear hc1 h32
            go_wp2_with (go_at_call 33; refine (unhide HCD).mono ?_; rintro r w6 ⟨rfl, hb6⟩)
            refine bodyPost_ret (v := .tuple #[.slice a5 bs.length c5, .int .i64 1]) (by simp [results, Tryz.results17, go_sem]) rfl ?_
            rw [unhide HRZ]
            exact CkQ.own ((unhide HO5).later hb6) (unhide HB1).size (below_step (unhide HB1) (below_step (unhide HS5) hb6))
          · have HRZ : Hid (RR = (ce, bs)) := by show _ = _; rw [unhide HRQ, bc, decide_eq_false h32]; rfl
            have h33 : (bs.length : Int) ≤ 32 := by omega
            clear hc1 h32
            go_wp2_with (go_at_call 33; refine (unhide HCD).mono ?_; rintro r w6 ⟨rfl, hb6⟩)
            refine bodyPost_ret (v := .tuple #[.slice a5 bs.length c5, .int .i64 ce]) (by simp [results, Tryz.results17, go_sem]) rfl ?_
            rw [unhide HRZ]
            exact CkQ.own ((unhide HO5).later hb6) (unhide HB1).size (below_step (unhide HB1) (below_step (unhide HS5) hb6))
      · obtain ⟨hla, hle, hcn, han⟩ := need6 o (unhide HND)
        have hRR : RR = (grpE (in0 (xs.map fun x => x.2.2)) p.cols p.aggs, grpK (in0 (xs.map fun x => x.2.2)) p.cols p.aggs) := by rw [unhide HR]; unfold chkOp; rw [o]; rfl
        have e1 : (p.op == 1) = false := by rw [o]; rfl
        have e12 : (p.op == 12) = false := by rw [o]; rfl
        have e8 : (p.op == 8) = false := by rw [o]; rfl
        have e11 : (p.op == 11) = false := by rw [o]; rfl
        have e2 : (p.op == 2) = false := by rw [o]; rfl
        have e3 : (p.op == 3) = false := by rw [o]; rfl
        have e4 : (p.op == 4) = false := by rw [o]; rfl
        have e5 : (p.op == 5) = false := by rw [o]; rfl
        have e6 : (p.op == 6) = true := by rw [o]; rfl
        obtain ⟨x0, hx0⟩ : ∃ x, xs[0]? = some x := ⟨_, List.getElem?_eq_getElem (by have := unhide HXL; omega)⟩
        obtain ⟨g, rfl, d0, hk0, hg0⟩ := (unhide HIN).get hx0
        have HK0 := hide hk0
        have HKO := hide (unhide HKS x0 (List.mem_of_getElem? hx0))
        have HS0X := hide (unhide HSP x0 (List.mem_of_getElem? hx0))
        have HI0 : Hid (in0 (xs.map fun x => x.2.2) = x0.2.2) := by show _ = _; unfold in0; rw [List.getElem?_map, hx0]; rfl
        obtain ⟨ax, cx, k0⟩ := x0
        simp only at d0 HK0 HKO HS0X HI0
        have hN0 : (0 : Int) < (p.args.length : Int) := by omega
        have hk0l : k0.length ≤ 32 := (unhide HKO).hi
        clear hx0 hk0 hg0
        have HC := hide (fun (W : World) (hW : Below wr.heap.size wr W) => grouped_any k0 (by omega) ax cx p (unhide HF) m W ((unhide HA1).o.later hW) ((unhide HK0).later hW) hcn (fun x hx => (han x hx).1))
        rw [unhide HI0] at hRR
        generalize grpE k0 p.cols p.aggs = pe at *
        generalize grpK k0 p.cols p.aggs = pk at *
        have HRQ := hide hRR
        have HD0 := hide d0
        clear o hla hle hcn han c2 c3x c4 c5 c6 c7 c8 c9 HR hRR
        go_upto_region 42 with fail
        have HS0 := hide ((Below.refl wr.heap.size wr).drew)
        refine wp_region_noPanic ?_
        refine wp_region_G (S := fun w' : World => Below wr.heap.size wr w') (k := 8) (by kernel_rfl) ?_
        refine anyG_takel (i := 0) (v := (p.val m)) [4, 5, 6, 7, 8] rfl (by kernel_rfl) (by kernel_rfl) (by kernel_rfl) (by kernel_rfl) (fun _ _ _ h => h) (Or.inl ⟨by rfl, fun w' hSw => ?_⟩) (unhide HS0) ?_
        · obtain ⟨b0, b1, b2, b3, b4, b5, b6, b7, b8, b9, b10⟩ := (unhide HE1).later hSw; simp only [Nat.zero_add] at b0 b1 b2 b3 b4 b5 b6 b7 b8 b9 b10; unfold Pl.val; go_simp
        try simp only [Act.put, List.setIfInBounds_toArray, List.set_cons_zero, List.set_cons_succ]
        refine anyG_takel (i := 1) (v := (.slice (some ⟨g, 0, none⟩) p.args.length c3)) [2, 3, 4, 5, 6, 7, 8] rfl (by kernel_rfl) (by kernel_rfl) (by kernel_rfl) (by kernel_rfl) (fun _ _ _ h => h) (Or.inl ⟨by rfl, fun w' hSw => ?_⟩) (unhide HS0) ?_
        · go_simp
        try simp only [Act.put, List.setIfInBounds_toArray, List.set_cons_zero, List.set_cons_succ]
        refine anyG_takel (i := 2) (v := (.pointer (some ⟨g, 0, none⟩))) [3, 4, 5, 6, 7, 8] rfl (by kernel_rfl) (by kernel_rfl) (by kernel_rfl) (by kernel_rfl) (fun _ _ _ h => h) (Or.inl ⟨by rfl, fun w' hSw => ?_⟩) (unhide HS0) ?_
        · (try go_simp); intro h; exact absurd hN0 (by rw [h]; simp)
        try simp only [Act.put, List.setIfInBounds_toArray, List.set_cons_zero, List.set_cons_succ]
        refine anyG_takel (i := 3) (v := (.slice ax k0.length cx)) [4, 5, 6, 7, 8] rfl (by kernel_rfl) (by kernel_rfl) (by kernel_rfl) (by kernel_rfl) (fun _ _ _ h => h) (Or.inl ⟨by rfl, fun w' hSw => ?_⟩) (unhide HS0) ?_
        · have e5 := clater (unhide HD0) hSw; go_simp
        try simp only [Act.put, List.setIfInBounds_toArray, List.set_cons_zero, List.set_cons_succ]
        refine anyG_one (i := 4) (by kernel_rfl) ?_
        refine wpOp_lit rfl (by rfl) fun K' hK' => ?_
        go_simp
        refine (unhide HC _ (unhide HS0)).mono ?_
        rintro r w3 ⟨aq, cq, Mq, rfl, q1, q2, q3⟩
        go_simp
        have HQ : Hid (PjQ pk pe wr.drew (.returned (.tuple #[.slice aq Mq.length cq, .int .i64 pe])) w3) := ⟨aq, cq, Mq, rfl, q1, q2, q3⟩
        have HS1 := hide (below_step (unhide HS0) q3)
        clear q1 q2 q3
        refine unhide hK' _ _ ⟨fun _ => unhide HS1, ?_⟩
        clear hK' K'
        refine anyG_takel (i := 5) (v := (.slice aq Mq.length cq)) [7, 8] rfl (by kernel_rfl) (by kernel_rfl) (by kernel_rfl) (by kernel_rfl) (fun _ _ _ h => h) (Or.inl ⟨by rfl, fun w' hSw => ?_⟩) (unhide HS1) ?_
        · go_simp
        try simp only [Act.put, List.setIfInBounds_toArray, List.set_cons_zero, List.set_cons_succ]
        refine anyG_takel (i := 6) (v := (.int .i64 pe)) [7, 8] rfl (by kernel_rfl) (by kernel_rfl) (by kernel_rfl) (by kernel_rfl) (fun _ _ _ h => h) (Or.inl ⟨by rfl, fun w' hSw => ?_⟩) (unhide HS1) ?_
        · go_simp
        try simp only [Act.put, List.setIfInBounds_toArray, List.set_cons_zero, List.set_cons_succ]
        refine anyG_one (i := 7) (by kernel_rfl) ?_
        refine wpOp_lit rfl (by rfl) fun K' hK' => ?_
        go_simp
        refine unhide hK' _ _ ⟨fun _ => unhide HS1, ?_⟩
        clear hK' K'
        refine anyG_one (i := 8) (by kernel_rfl) ?_
        refine wpOp_lit rfl (by rfl) fun K' hK' => ?_
        go_simp
        refine unhide hK' _ _ ⟨fun hh => absurd hh (by decide), ?_⟩
        clear hK' K'
        refine anyG_done (by kernel_rfl) ?_ _
        refine NoPanic.normal ?_
        go_wp2
        refine bodyPost_ret (v := .tuple #[.slice aq Mq.length cq, .int .i64 pe]) (by simp [results, Tryz.results17, go_sem]) rfl ?_
        rw [unhide HRQ]
        exact CkQ.pj (unhide HQ) (below_step (unhide HB1) (Below.refl wr.heap.size wr).drew)
      · have hla := need7 o (unhide HND)
        have hRR : RR = (0, in0 (xs.map fun x => x.2.2)) := by rw [unhide HR]; unfold chkOp; rw [o]; rfl
        have e1 : (p.op == 1) = false := by rw [o]; rfl
        have e12 : (p.op == 12) = false := by rw [o]; rfl
        have e8 : (p.op == 8) = false := by rw [o]; rfl
        have e11 : (p.op == 11) = false := by rw [o]; rfl
        have e2 : (p.op == 2) = false := by rw [o]; rfl
        have e3 : (p.op == 3) = false := by rw [o]; rfl
        have e4 : (p.op == 4) = false := by rw [o]; rfl
        have e5 : (p.op == 5) = false := by rw [o]; rfl
        have e6 : (p.op == 6) = false := by rw [o]; rfl
        have e10 : (p.op == 10) = false := by rw [o]; rfl
        have e9 : (p.op == 9) = false := by rw [o]; rfl
        obtain ⟨x0, hx0⟩ : ∃ x, xs[0]? = some x := ⟨_, List.getElem?_eq_getElem (by have := unhide HXL; omega)⟩
        obtain ⟨g, rfl, d0, hk0, hg0⟩ := (unhide HIN).get hx0
        have HK0 := hide hk0
        have HKO := hide (unhide HKS x0 (List.mem_of_getElem? hx0))
        have HS0X := hide (unhide HSP x0 (List.mem_of_getElem? hx0))
        have HI0 : Hid (in0 (xs.map fun x => x.2.2) = x0.2.2) := by show _ = _; unfold in0; rw [List.getElem?_map, hx0]; rfl
        obtain ⟨ax, cx, k0⟩ := x0
        simp only at d0 HK0 HKO HS0X HI0
        have hN0 : (0 : Int) < (p.args.length : Int) := by omega
        have hk0l : k0.length ≤ 32 := (unhide HKO).hi
        clear hx0 hk0 hg0
        rw [unhide HI0] at hRR
        have HRQ := hide hRR
        clear o hla c2 c3x c4 c5 c6 c7 c8 c9 HR hRR
        go_upto_region 48 with fail
        go_wp2
        refine bodyPost_ret (v := .tuple #[.slice ax k0.length cx, .int .i64 0]) (by simp [results, Tryz.results17, go_sem]) rfl ?_
        rw [unhide HRQ]
        exact CkQ.old (unhide HK0) (unhide HS0X) (unhide HB1)
      · have hla : 1 ≤ p.args.length := by have := need8 o (unhide HND); omega
        have hRR : RR = (if ((xs.map fun x => x.2.2).drop 1).any (fun k => !decide (k = in0 (xs.map fun x => x.2.2))) then 4 else 0, in0 (xs.map fun x => x.2.2)) := by rw [unhide HR]; unfold chkOp; rw [o]; rfl
        have e1 : (p.op == 1) = false := by rw [o]; rfl
        have e12 : (p.op == 12) = false := by rw [o]; rfl
        have e8 : (p.op == 8) = true := by rw [o]; rfl
        obtain ⟨x0, hx0⟩ : ∃ x, xs[0]? = some x := ⟨_, List.getElem?_eq_getElem (by have := unhide HXL; omega)⟩
        obtain ⟨g, rfl, d0, hk0, hg0⟩ := (unhide HIN).get hx0
        have HK0 := hide hk0
        have HKO := hide (unhide HKS x0 (List.mem_of_getElem? hx0))
        have HS0X := hide (unhide HSP x0 (List.mem_of_getElem? hx0))
        have HI0 : Hid (in0 (xs.map fun x => x.2.2) = x0.2.2) := by show _ = _; unfold in0; rw [List.getElem?_map, hx0]; rfl
        obtain ⟨ax, cx, k0⟩ := x0
        simp only at d0 HK0 HKO HS0X HI0
        have hN0 : (0 : Int) < (p.args.length : Int) := by omega
        have hk0l : k0.length ≤ 32 := (unhide HKO).hi
        clear hx0 hk0 hg0
        rw [unhide HI0] at hRR
        have HRQ := hide hRR
        have hcap : p.args.length ≤ c3 := by have := unhide HXL; have h := unhide HIN; rw [← this] at h; rw [← this]; exact h.cap_le
        obtain ⟨sa, hsa⟩ : ∃ sa, sa = (if c3 = 1 then some (⟨g, 0, none⟩ : Addr) else some ⟨g, 1, none⟩) := ⟨_, rfl⟩
        obtain ⟨N, hN⟩ : ∃ N, N = p.args.length - 1 := ⟨_, rfl⟩
        obtain ⟨C, hC⟩ : ∃ C, C = c3 - 1 := ⟨_, rfl⟩
        have hsl : ∀ W, (Instr.slice 71 (.slice (some ⟨g, 0, none⟩) p.args.length c3) (some (.int .i64 1)) none none).run Tryz.prog W = .ok (.slice sa N C) W := fun W => by rw [hsa, hN, hC]; exact slice_lo71 g p.args.length c3 W hla
        have HSA : Hid (1 ≤ N → sa = some ⟨g, 1, none⟩) := fun h => by rw [hsa, if_neg (by omega)]
        have HN := hide hN
        have hNN : N ≤ 1048576 := by omega
        have HD0 := hide d0
        clear o hla c2 c3x c4 c5 c6 c7 c8 c9 HR hRR hsa hN hC hcap
        obtain ⟨wq, hwq⟩ : ∃ wq, wq = wr := ⟨_, rfl⟩
        subst hwq
        go_wp2_with fail
        go_loopw [66] (fun i wx => ∃ (k : Nat), k ≤ N ∧ i = .int .i64 (k : Int) ∧ Hid (∀ (j : Nat) y, j < k → xs[j + 1]? = some y → decide (y.2.2 = k0) = true) ∧ Hid (Below wq.heap.size wq wx)) (fun i _ => N - (intOf i).toNat)
        case atStart => exact ⟨0, Nat.zero_le _, rfl, (fun j y hj => absurd hj (by omega)), Below.refl _ _⟩
        case round =>
          clear hsl
          obtain ⟨k, hk, rfl, HM, HBx⟩ := hrel
          by_cases hlt : k < N
          · have h9 : (k : Int) < (N : Int) := by omega
            obtain ⟨x, hx⟩ : ∃ x, xs[k + 1]? = some x := ⟨_, List.getElem?_eq_getElem (by have := unhide HXL; have := unhide HN; omega)⟩
            obtain ⟨g', e', dx, hkx, _⟩ := (unhide HIN).get hx
            injection e' with e'
            injection e' with e'
            subst e'
            have hxk := (unhide HKS x (List.mem_of_getElem? hx)).hi
            have e1 := unhide HSA (by omega)
            have dx1 : wq.cell? ⟨g, 1 + k, none⟩ = some (.slice x.1 x.2.2.length x.2.1) := by rw [Nat.add_comm]; exact dx
            have d1 := clater dx1 (unhide HBx)
            have d0 := clater (unhide HD0) (unhide HBx)
            have HX := hide hx
            have HC := hide (sameKinds_any x.2.2 k0 x.1 x.2.1 ax cx wr (by omega) (by omega) (hkx.later (unhide HBx)) ((unhide HK0).later (unhide HBx)))
            rw [e1]
            obtain ⟨ay, cy, k1⟩ := x
            simp only at d1 HC hxk
            clear hx dx dx1 hkx e1
            by_cases hq : k1 = k0
            · rw [decide_eq_true hq] at HC
              have HM2 : Hid (∀ (j : Nat) y, j < k + 1 → xs[j + 1]? = some y → decide (y.2.2 = k0) = true) := by
                intro j y hj hy
                rcases Nat.lt_or_eq_of_le (Nat.le_of_lt_succ hj) with h | rfl
                · exact unhide HM j y h hy
                · rw [unhide HX] at hy; injection hy with hy; rw [← hy]; exact decide_eq_true hq
              clear HM HX hq
              go_wp2_with (go_at_call 32; refine (unhide HC).mono ?_; rintro r w5 ⟨rfl, hb5⟩)
              exact ⟨⟨k + 1, by omega, by go_num, unhide HM2, below_step (unhide HBx) hb5⟩, by simp [intOf]; omega⟩
            · rw [decide_eq_false hq] at HC
              have HRZ : Hid (RR = (4, k0)) := by
                show _ = _
                rw [unhide HRQ, any_mem (p := fun k => !decide (k = k0)) (k := k) (x := k1) (by rw [List.getElem?_drop, List.getElem?_map, Nat.add_comm, unhide HX]; rfl) (by rw [decide_eq_false hq]; rfl)]
                rfl
              clear HM HX hq
              go_wp2_with (go_at_call 32; refine (unhide HC).mono ?_; rintro r w5 ⟨rfl, hb5⟩)
              refine bodyPost_ret (v := .tuple #[.slice none 0 0, .int .i64 4]) (by simp [results, Tryz.results17, go_sem]) rfl ?_
              rw [unhide HRZ]
              exact CkQ.err (by decide) (below_step (unhide HB1) (below_step (unhide HBx) hb5))
          · have h9 : ¬ (k : Int) < (N : Int) := by omega
            have HRZ : Hid (RR = (0, k0)) := by
              show _ = _
              have : ((xs.map fun x => x.2.2).drop 1).any (fun k => !decide (k = k0)) = false := by
                rw [List.any_eq_false]
                intro y hy
                obtain ⟨i, hi, rfl⟩ := List.mem_iff_getElem.1 hy
                have hi2 : i + 1 < xs.length := by simp at hi; omega
                have := unhide HM i _ (by have := unhide HXL; have := unhide HN; omega) (List.getElem?_eq_getElem hi2)
                simp only [decide_eq_true_eq] at this
                simp [Nat.add_comm 1 i, this]
              rw [unhide HRQ, this]
              rfl
            have d0 := clater (unhide HD0) (unhide HBx)
            clear HM
            go_wp2
            refine bodyPost_ret (v := .tuple #[.slice ax k0.length cx, .int .i64 0]) (by simp [results, Tryz.results17, go_sem]) rfl ?_
            rw [unhide HRZ]
            exact CkQ.old ((unhide HK0).later (unhide HBx)) (unhide HS0X) (below_step (unhide HB1) (unhide HBx))
      · have hla := need9 o (unhide HND)
        have hRR : RR = (if (p.keys.map Prod.fst).any (fun c => decide (((in0 (xs.map fun x => x.2.2)).length : Int) ≤ c)) then 1 else 0, in0 (xs.map fun x => x.2.2)) := by rw [unhide HR]; unfold chkOp; rw [o]; rfl
        have e1 : (p.op == 1) = false := by rw [o]; rfl
        have e12 : (p.op == 12) = false := by rw [o]; rfl
        have e8 : (p.op == 8) = false := by rw [o]; rfl
        have e11 : (p.op == 11) = false := by rw [o]; rfl
        have e2 : (p.op == 2) = false := by rw [o]; rfl
        have e3 : (p.op == 3) = false := by rw [o]; rfl
        have e4 : (p.op == 4) = false := by rw [o]; rfl
        have e5 : (p.op == 5) = false := by rw [o]; rfl
        have e6 : (p.op == 6) = false := by rw [o]; rfl
        have e10 : (p.op == 10) = false := by rw [o]; rfl
        have e9 : (p.op == 9) = true := by rw [o]; rfl
        obtain ⟨x0, hx0⟩ : ∃ x, xs[0]? = some x := ⟨_, List.getElem?_eq_getElem (by have := unhide HXL; omega)⟩
        obtain ⟨g, rfl, d0, hk0, hg0⟩ := (unhide HIN).get hx0
        have HK0 := hide hk0
        have HKO := hide (unhide HKS x0 (List.mem_of_getElem? hx0))
        have HS0X := hide (unhide HSP x0 (List.mem_of_getElem? hx0))
        have HI0 : Hid (in0 (xs.map fun x => x.2.2) = x0.2.2) := by show _ = _; unfold in0; rw [List.getElem?_map, hx0]; rfl
        obtain ⟨ax, cx, k0⟩ := x0
        simp only at d0 HK0 HKO HS0X HI0
        have hN0 : (0 : Int) < (p.args.length : Int) := by omega
        have hk0l : k0.length ≤ 32 := (unhide HKO).hi
        clear hx0 hk0 hg0
        rw [unhide HI0] at hRR
        have HKC := hide (fun (W : World) (hW : Below wr.heap.size wr W) => keyCols_any p.keys m.aK m.cK W f4 ((unhide HA1).o.k.later hW))
        have HKL : Hid ((p.keys.map Prod.fst).length ≤ 1048576) := by show _ ≤ _; rw [List.length_map]; omega
        have HD0 := hide d0
        have HC4 := hide c4
        have HRQ := hide hRR
        generalize p.keys.map Prod.fst = kc at *
        clear o hla c2 c3x c4 c5 c6 c7 c8 c9 HR hRR
        cases hby : kc.any (fun c => decide ((k0.length : Int) ≤ c))
        · rw [hby] at HRQ
          go_upto_region 46 with fail
          have HS0 := hide ((Below.refl wr.heap.size wr).drew)
          refine wp_region_noPanic ?_
          refine wp_region_G (S := fun w' : World => Below wr.heap.size wr w') (k := 7) (by kernel_rfl) ?_
          refine anyG_takel (i := 0) (v := (.pointer (some ⟨w.heap.size, 4, none⟩))) [1, 2, 7] rfl (by kernel_rfl) (by kernel_rfl) (by kernel_rfl) (by kernel_rfl) (fun _ _ _ h => h) (Or.inl ⟨by rfl, fun w' hSw => ?_⟩) (unhide HS0) ?_
          · go_simp
          try simp only [Act.put, List.setIfInBounds_toArray, List.set_cons_zero, List.set_cons_succ]
          refine anyG_takel (i := 1) (v := (.slice m.aK p.keys.length m.cK)) [2, 7] rfl (by kernel_rfl) (by kernel_rfl) (by kernel_rfl) (by kernel_rfl) (fun _ _ _ h => h) (Or.inl ⟨by rfl, fun w' hSw => ?_⟩) (unhide HS0) ?_
          · have e5 := clater (unhide HC4) hSw; go_simp
          try simp only [Act.put, List.setIfInBounds_toArray, List.set_cons_zero, List.set_cons_succ]
          refine anyG_takel (i := 3) (v := (.slice (some ⟨g, 0, none⟩) p.args.length c3)) [4, 5, 6, 7] rfl (by kernel_rfl) (by kernel_rfl) (by kernel_rfl) (by kernel_rfl) (fun _ _ _ h => h) (Or.inl ⟨by rfl, fun w' hSw => ?_⟩) (unhide HS0) ?_
          · go_simp
          try simp only [Act.put, List.setIfInBounds_toArray, List.set_cons_zero, List.set_cons_succ]
          refine anyG_takel (i := 4) (v := (.pointer (some ⟨g, 0, none⟩))) [5, 6, 7] rfl (by kernel_rfl) (by kernel_rfl) (by kernel_rfl) (by kernel_rfl) (fun _ _ _ h => h) (Or.inl ⟨by rfl, fun w' hSw => ?_⟩) (unhide HS0) ?_
          · (try go_simp); intro h; exact absurd hN0 (by rw [h]; simp)
          try simp only [Act.put, List.setIfInBounds_toArray, List.set_cons_zero, List.set_cons_succ]
          refine anyG_takel (i := 5) (v := (.slice ax k0.length cx)) [6, 7] rfl (by kernel_rfl) (by kernel_rfl) (by kernel_rfl) (by kernel_rfl) (fun _ _ _ h => h) (Or.inl ⟨by rfl, fun w' hSw => ?_⟩) (unhide HS0) ?_
          · have e5 := clater (unhide HD0) hSw; go_simp
          try simp only [Act.put, List.setIfInBounds_toArray, List.set_cons_zero, List.set_cons_succ]
          refine anyG_takel (i := 6) (v := (.int .i64 (k0.length : Int))) [7] rfl (by kernel_rfl) (by kernel_rfl) (by kernel_rfl) (by kernel_rfl) (fun _ _ _ h => h) (Or.inl ⟨by rfl, fun w' hSw => ?_⟩) (unhide HS0) ?_
          · go_simp
          try simp only [Act.put, List.setIfInBounds_toArray, List.set_cons_zero, List.set_cons_succ]
          refine anyG_one (i := 2) (by kernel_rfl) ?_
          refine wpOp_lit rfl (by rfl) fun K' hK' => ?_
          go_simp
          refine (unhide HKC _ (unhide HS0)).mono ?_
          rintro r w3 ⟨aq, cq, rfl, q1, q3⟩
          go_simp
          have HBY := hide (beyond_any kc (k0.length : Int) aq cq w3 (by have := unhide HKL; omega) q1.ints)
          rw [hby] at HBY
          have HS1 := hide (below_step (unhide HS0) q3)
          clear q1 q3
          refine unhide hK' _ _ ⟨fun _ => unhide HS1, ?_⟩
          clear hK' K'
          refine anyG_one (i := 7) (by kernel_rfl) ?_
          refine wpOp_lit rfl (by rfl) fun K' hK' => ?_
          go_simp
          refine (unhide HBY).mono ?_
          rintro r w4 ⟨rfl, q3⟩
          go_simp
          have HS2 := hide (below_step (unhide HS1) q3)
          clear q3
          refine unhide hK' _ _ ⟨fun hh => absurd hh (by decide), ?_⟩
          clear hK' K'
          refine anyG_done (by kernel_rfl) ?_ _
          refine NoPanic.normal ?_
          have d9 := clater (unhide HD0) (unhide HS2)
          go_wp2
          refine bodyPost_ret (v := .tuple #[.slice ax k0.length cx, .int .i64 0]) (by simp [results, Tryz.results17, go_sem]) rfl ?_
          rw [unhide HRQ]
          exact CkQ.old ((unhide HK0).later (unhide HS2)) (unhide HS0X) (below_step (unhide HB1) (unhide HS2))
        · rw [hby] at HRQ
          go_upto_region 46 with fail
          have HS0 := hide ((Below.refl wr.heap.size wr).drew)
          refine wp_region_noPanic ?_
          refine wp_region_G (S := fun w' : World => Below wr.heap.size wr w') (k := 7) (by kernel_rfl) ?_
          refine anyG_takel (i := 0) (v := (.pointer (some ⟨w.heap.size, 4, none⟩))) [1, 2, 7] rfl (by kernel_rfl) (by kernel_rfl) (by kernel_rfl) (by kernel_rfl) (fun _ _ _ h => h) (Or.inl ⟨by rfl, fun w' hSw => ?_⟩) (unhide HS0) ?_
          · go_simp
          try simp only [Act.put, List.setIfInBounds_toArray, List.set_cons_zero, List.set_cons_succ]
          refine anyG_takel (i := 1) (v := (.slice m.aK p.keys.length m.cK)) [2, 7] rfl (by kernel_rfl) (by kernel_rfl) (by kernel_rfl) (by kernel_rfl) (fun _ _ _ h => h) (Or.inl ⟨by rfl, fun w' hSw => ?_⟩) (unhide HS0) ?_
          · have e5 := clater (unhide HC4) hSw; go_simp
          try simp only [Act.put, List.setIfInBounds_toArray, List.set_cons_zero, List.set_cons_succ]
          refine anyG_takel (i := 3) (v := (.slice (some ⟨g, 0, none⟩) p.args.length c3)) [4, 5, 6, 7] rfl (by kernel_rfl) (by kernel_rfl) (by kernel_rfl) (by kernel_rfl) (fun _ _ _ h => h) (Or.inl ⟨by rfl, fun w' hSw => ?_⟩) (unhide HS0) ?_
          · go_simp
          try simp only [Act.put, List.setIfInBounds_toArray, List.set_cons_zero, List.set_cons_succ]
          refine anyG_takel (i := 4) (v := (.pointer (some ⟨g, 0, none⟩))) [5, 6, 7] rfl (by kernel_rfl) (by kernel_rfl) (by kernel_rfl) (by kernel_rfl) (fun _ _ _ h => h) (Or.inl ⟨by rfl, fun w' hSw => ?_⟩) (unhide HS0) ?_
          · (try go_simp); intro h; exact absurd hN0 (by rw [h]; simp)
          try simp only [Act.put, List.setIfInBounds_toArray, List.set_cons_zero, List.set_cons_succ]
          refine anyG_takel (i := 5) (v := (.slice ax k0.length cx)) [6, 7] rfl (by kernel_rfl) (by kernel_rfl) (by kernel_rfl) (by kernel_rfl) (fun _ _ _ h => h) (Or.inl ⟨by rfl, fun w' hSw => ?_⟩) (unhide HS0) ?_
          · have e5 := clater (unhide HD0) hSw; go_simp
          try simp only [Act.put, List.setIfInBounds_toArray, List.set_cons_zero, List.set_cons_succ]
          refine anyG_takel (i := 6) (v := (.int .i64 (k0.length : Int))) [7] rfl (by kernel_rfl) (by kernel_rfl) (by kernel_rfl) (by kernel_rfl) (fun _ _ _ h => h) (Or.inl ⟨by rfl, fun w' hSw => ?_⟩) (unhide HS0) ?_
          · go_simp
          try simp only [Act.put, List.setIfInBounds_toArray, List.set_cons_zero, List.set_cons_succ]
          refine anyG_one (i := 2) (by kernel_rfl) ?_
          refine wpOp_lit rfl (by rfl) fun K' hK' => ?_
          go_simp
          refine (unhide HKC _ (unhide HS0)).mono ?_
          rintro r w3 ⟨aq, cq, rfl, q1, q3⟩
          go_simp
          have HBY := hide (beyond_any kc (k0.length : Int) aq cq w3 (by have := unhide HKL; omega) q1.ints)
          rw [hby] at HBY
          have HS1 := hide (below_step (unhide HS0) q3)
          clear q1 q3
          refine unhide hK' _ _ ⟨fun _ => unhide HS1, ?_⟩
          clear hK' K'
          refine anyG_one (i := 7) (by kernel_rfl) ?_
          refine wpOp_lit rfl (by rfl) fun K' hK' => ?_
          go_simp
          refine (unhide HBY).mono ?_
          rintro r w4 ⟨rfl, q3⟩
          go_simp
          have HS2 := hide (below_step (unhide HS1) q3)
          clear q3
          refine unhide hK' _ _ ⟨fun hh => absurd hh (by decide), ?_⟩
          clear hK' K'
          refine anyG_done (by kernel_rfl) ?_ _
          refine NoPanic.normal ?_
          go_wp2
          refine bodyPost_ret (v := .tuple #[.slice none 0 0, .int .i64 1]) (by simp [results, Tryz.results17, go_sem]) rfl ?_
          rw [unhide HRQ]
          exact CkQ.err (by decide) (below_step (unhide HB1) (unhide HS2))
      · obtain ⟨hla, hle, hcn⟩ := need10 o (unhide HND)
        have hRR : RR = (winE (in0 (xs.map fun x => x.2.2)) p.cols (p.keys.map Prod.fst) p.fn p.col, winK (in0 (xs.map fun x => x.2.2)) p.fn p.col) := by rw [unhide HR]; unfold chkOp; rw [o]; rfl
        have e1 : (p.op == 1) = false := by rw [o]; rfl
        have e12 : (p.op == 12) = false := by rw [o]; rfl
        have e8 : (p.op == 8) = false := by rw [o]; rfl
        have e11 : (p.op == 11) = false := by rw [o]; rfl
        have e2 : (p.op == 2) = false := by rw [o]; rfl
        have e3 : (p.op == 3) = false := by rw [o]; rfl
        have e4 : (p.op == 4) = false := by rw [o]; rfl
        have e5 : (p.op == 5) = false := by rw [o]; rfl
        have e6 : (p.op == 6) = false := by rw [o]; rfl
        have e10 : (p.op == 10) = true := by rw [o]; rfl
        obtain ⟨x0, hx0⟩ : ∃ x, xs[0]? = some x := ⟨_, List.getElem?_eq_getElem (by have := unhide HXL; omega)⟩
        obtain ⟨g, rfl, d0, hk0, hg0⟩ := (unhide HIN).get hx0
        have HK0 := hide hk0
        have HKO := hide (unhide HKS x0 (List.mem_of_getElem? hx0))
        have HS0X := hide (unhide HSP x0 (List.mem_of_getElem? hx0))
        have HI0 : Hid (in0 (xs.map fun x => x.2.2) = x0.2.2) := by show _ = _; unfold in0; rw [List.getElem?_map, hx0]; rfl
        obtain ⟨ax, cx, k0⟩ := x0
        simp only at d0 HK0 HKO HS0X HI0
        have hN0 : (0 : Int) < (p.args.length : Int) := by omega
        have hk0l : k0.length ≤ 32 := (unhide HKO).hi
        clear hx0 hk0 hg0
        have HC := hide (fun (W : World) (hW : Below wr.heap.size wr W) => windowed_any k0 (by omega) (unhide HKO).lo ax cx p (unhide HF) m W ((unhide HA1).o.later hW) ((unhide HK0).later hW) (fun _ => hle))
        rw [unhide HI0] at hRR
        generalize winE k0 p.cols (p.keys.map Prod.fst) p.fn p.col = pe at *
        generalize winK k0 p.fn p.col = pk at *
        have HRQ := hide hRR
        have HD0 := hide d0
        clear o hla hle hcn c2 c3x c4 c5 c6 c7 c8 c9 HR hRR
        go_upto_region 44 with fail
        have HS0 := hide ((Below.refl wr.heap.size wr).drew)
        refine wp_region_noPanic ?_
        refine wp_region_G (S := fun w' : World => Below wr.heap.size wr w') (k := 8) (by kernel_rfl) ?_
        refine anyG_takel (i := 0) (v := (p.val m)) [4, 5, 6, 7, 8] rfl (by kernel_rfl) (by kernel_rfl) (by kernel_rfl) (by kernel_rfl) (fun _ _ _ h => h) (Or.inl ⟨by rfl, fun w' hSw => ?_⟩) (unhide HS0) ?_
        · obtain ⟨b0, b1, b2, b3, b4, b5, b6, b7, b8, b9, b10⟩ := (unhide HE1).later hSw; simp only [Nat.zero_add] at b0 b1 b2 b3 b4 b5 b6 b7 b8 b9 b10; unfold Pl.val; go_simp
        try simp only [Act.put, List.setIfInBounds_toArray, List.set_cons_zero, List.set_cons_succ]
        refine anyG_takel (i := 1) (v := (.slice (some ⟨g, 0, none⟩) p.args.length c3)) [2, 3, 4, 5, 6, 7, 8] rfl (by kernel_rfl) (by kernel_rfl) (by kernel_rfl) (by kernel_rfl) (fun _ _ _ h => h) (Or.inl ⟨by rfl, fun w' hSw => ?_⟩) (unhide HS0) ?_
        · go_simp
        try simp only [Act.put, List.setIfInBounds_toArray, List.set_cons_zero, List.set_cons_succ]
        refine anyG_takel (i := 2) (v := (.pointer (some ⟨g, 0, none⟩))) [3, 4, 5, 6, 7, 8] rfl (by kernel_rfl) (by kernel_rfl) (by kernel_rfl) (by kernel_rfl) (fun _ _ _ h => h) (Or.inl ⟨by rfl, fun w' hSw => ?_⟩) (unhide HS0) ?_
        · (try go_simp); intro h; exact absurd hN0 (by rw [h]; simp)
        try simp only [Act.put, List.setIfInBounds_toArray, List.set_cons_zero, List.set_cons_succ]
        refine anyG_takel (i := 3) (v := (.slice ax k0.length cx)) [4, 5, 6, 7, 8] rfl (by kernel_rfl) (by kernel_rfl) (by kernel_rfl) (by kernel_rfl) (fun _ _ _ h => h) (Or.inl ⟨by rfl, fun w' hSw => ?_⟩) (unhide HS0) ?_
        · have e5 := clater (unhide HD0) hSw; go_simp
        try simp only [Act.put, List.setIfInBounds_toArray, List.set_cons_zero, List.set_cons_succ]
        refine anyG_one (i := 4) (by kernel_rfl) ?_
        refine wpOp_lit rfl (by rfl) fun K' hK' => ?_
        go_simp
        refine (unhide HC _ (unhide HS0)).mono ?_
        rintro r w3 ⟨aq, cq, Mq, rfl, q1, q2, q3⟩
        go_simp
        have HQ : Hid (PjQ pk pe wr.drew (.returned (.tuple #[.slice aq Mq.length cq, .int .i64 pe])) w3) := ⟨aq, cq, Mq, rfl, q1, q2, q3⟩
        have HS1 := hide (below_step (unhide HS0) q3)
        clear q1 q2 q3
        refine unhide hK' _ _ ⟨fun _ => unhide HS1, ?_⟩
        clear hK' K'
        refine anyG_takel (i := 5) (v := (.slice aq Mq.length cq)) [7, 8] rfl (by kernel_rfl) (by kernel_rfl) (by kernel_rfl) (by kernel_rfl) (fun _ _ _ h => h) (Or.inl ⟨by rfl, fun w' hSw => ?_⟩) (unhide HS1) ?_
        · go_simp
        try simp only [Act.put, List.setIfInBounds_toArray, List.set_cons_zero, List.set_cons_succ]
        refine anyG_takel (i := 6) (v := (.int .i64 pe)) [7, 8] rfl (by kernel_rfl) (by kernel_rfl) (by kernel_rfl) (by kernel_rfl) (fun _ _ _ h => h) (Or.inl ⟨by rfl, fun w' hSw => ?_⟩) (unhide HS1) ?_
        · go_simp
        try simp only [Act.put, List.setIfInBounds_toArray, List.set_cons_zero, List.set_cons_succ]
        refine anyG_one (i := 7) (by kernel_rfl) ?_
        refine wpOp_lit rfl (by rfl) fun K' hK' => ?_
        go_simp
        refine unhide hK' _ _ ⟨fun _ => unhide HS1, ?_⟩
        clear hK' K'
        refine anyG_one (i := 8) (by kernel_rfl) ?_
        refine wpOp_lit rfl (by rfl) fun K' hK' => ?_
        go_simp
        refine unhide hK' _ _ ⟨fun hh => absurd hh (by decide), ?_⟩
        clear hK' K'
        refine anyG_done (by kernel_rfl) ?_ _
        refine NoPanic.normal ?_
        go_wp2
        refine bodyPost_ret (v := .tuple #[.slice aq Mq.length cq, .int .i64 pe]) (by simp [results, Tryz.results17, go_sem]) rfl ?_
        rw [unhide HRQ]
        exact CkQ.pj (unhide HQ) (below_step (unhide HB1) (Below.refl wr.heap.size wr).drew)
      · have hla : 1 ≤ p.args.length := by have := need11 o (unhide HND); omega
        have hRR : RR = (if ((xs.map fun x => x.2.2).drop 1).any (fun k => !decide (k = in0 (xs.map fun x => x.2.2))) then 4 else 0, in0 (xs.map fun x => x.2.2)) := by rw [unhide HR]; unfold chkOp; rw [o]; rfl
        have e1 : (p.op == 1) = false := by rw [o]; rfl
        have e12 : (p.op == 12) = false := by rw [o]; rfl
        have e8 : (p.op == 8) = false := by rw [o]; rfl
        have e11 : (p.op == 11) = true := by rw [o]; rfl
        obtain ⟨x0, hx0⟩ : ∃ x, xs[0]? = some x := ⟨_, List.getElem?_eq_getElem (by have := unhide HXL; omega)⟩
        obtain ⟨g, rfl, d0, hk0, hg0⟩ := (unhide HIN).get hx0
        have HK0 := hide hk0
        have HKO := hide (unhide HKS x0 (List.mem_of_getElem? hx0))
        have HS0X := hide (unhide HSP x0 (List.mem_of_getElem? hx0))
        have HI0 : Hid (in0 (xs.map fun x => x.2.2) = x0.2.2) := by show _ = _; unfold in0; rw [List.getElem?_map, hx0]; rfl
        obtain ⟨ax, cx, k0⟩ := x0
        simp only at d0 HK0 HKO HS0X HI0
        have hN0 : (0 : Int) < (p.args.length : Int) := by omega
        have hk0l : k0.length ≤ 32 := (unhide HKO).hi
        clear hx0 hk0 hg0
        rw [unhide HI0] at hRR
        have HRQ := hide hRR
        have hcap : p.args.length ≤ c3 := by have := unhide HXL; have h := unhide HIN; rw [← this] at h; rw [← this]; exact h.cap_le
        obtain ⟨sa, hsa⟩ : ∃ sa, sa = (if c3 = 1 then some (⟨g, 0, none⟩ : Addr) else some ⟨g, 1, none⟩) := ⟨_, rfl⟩
        obtain ⟨N, hN⟩ : ∃ N, N = p.args.length - 1 := ⟨_, rfl⟩
        obtain ⟨C, hC⟩ : ∃ C, C = c3 - 1 := ⟨_, rfl⟩
        have hsl : ∀ W, (Instr.slice 71 (.slice (some ⟨g, 0, none⟩) p.args.length c3) (some (.int .i64 1)) none none).run Tryz.prog W = .ok (.slice sa N C) W := fun W => by rw [hsa, hN, hC]; exact slice_lo71 g p.args.length c3 W hla
        have HSA : Hid (1 ≤ N → sa = some ⟨g, 1, none⟩) := fun h => by rw [hsa, if_neg (by omega)]
        have HN := hide hN
        have hNN : N ≤ 1048576 := by omega
        have HD0 := hide d0
        clear o hla c2 c3x c4 c5 c6 c7 c8 c9 HR hRR hsa hN hC hcap
        obtain ⟨wq, hwq⟩ : ∃ wq, wq = wr := ⟨_, rfl⟩
        subst hwq
        go_wp2_with fail
        go_loopw [66] (fun i wx => ∃ (k : Nat), k ≤ N ∧ i = .int .i64 (k : Int) ∧ Hid (∀ (j : Nat) y, j < k → xs[j + 1]? = some y → decide (y.2.2 = k0) = true) ∧ Hid (Below wq.heap.size wq wx)) (fun i _ => N - (intOf i).toNat)
        case atStart => exact ⟨0, Nat.zero_le _, rfl, (fun j y hj => absurd hj (by omega)), Below.refl _ _⟩
        case round =>
          clear hsl
          obtain ⟨k, hk, rfl, HM, HBx⟩ := hrel
          by_cases hlt : k < N
          · have h9 : (k : Int) < (N : Int) := by omega
            obtain ⟨x, hx⟩ : ∃ x, xs[k + 1]? = some x := ⟨_, List.getElem?_eq_getElem (by have := unhide HXL; have := unhide HN; omega)⟩
            obtain ⟨g', e', dx, hkx, _⟩ := (unhide HIN).get hx
            injection e' with e'
            injection e' with e'
            subst e'
            have hxk := (unhide HKS x (List.mem_of_getElem? hx)).hi
            have e1 := unhide HSA (by omega)
            have dx1 : wq.cell? ⟨g, 1 + k, none⟩ = some (.slice x.1 x.2.2.length x.2.1) := by rw [Nat.add_comm]; exact dx
            have d1 := clater dx1 (unhide HBx)
            have d0 := clater (unhide HD0) (unhide HBx)
            have HX := hide hx
            have HC := hide (sameKinds_any x.2.2 k0 x.1 x.2.1 ax cx wr (by omega) (by omega) (hkx.later (unhide HBx)) ((unhide HK0).later (unhide HBx)))
            rw [e1]
            obtain ⟨ay, cy, k1⟩ := x
            simp only at d1 HC hxk
            clear hx dx dx1 hkx e1
            by_cases hq : k1 = k0
            · rw [decide_eq_true hq] at HC
              have HM2 : Hid (∀ (j : Nat) y, j < k + 1 → xs[j + 1]? = some y → decide (y.2.2 = k0) = true) := by
                intro j y hj hy
                rcases Nat.lt_or_eq_of_le (Nat.le_of_lt_succ hj) with h | rfl
                · exact unhide HM j y h hy
                · rw [unhide HX] at hy; injection hy with hy; rw [← hy]; exact decide_eq_true hq
              clear HM HX hq
              go_wp2_with (go_at_call 32; refine (unhide HC).mono ?_; rintro r w5 ⟨rfl, hb5⟩)
              exact ⟨⟨k + 1, by omega, by go_num, unhide HM2, below_step (unhide HBx) hb5⟩, by simp [intOf]; omega⟩
            · rw [decide_eq_false hq] at HC
              have HRZ : Hid (RR = (4, k0)) := by
                show _ = _
                rw [unhide HRQ, any_mem (p := fun k => !decide (k = k0)) (k := k) (x := k1) (by rw [List.getElem?_drop, List.getElem?_map, Nat.add_comm, unhide HX]; rfl) (by rw [decide_eq_false hq]; rfl)]
                rfl
              clear HM HX hq
              go_wp2_with (go_at_call 32; refine (unhide HC).mono ?_; rintro r w5 ⟨rfl, hb5⟩)
              refine bodyPost_ret (v := .tuple #[.slice none 0 0, .int .i64 4]) (by simp [results, Tryz.results17, go_sem]) rfl ?_
              rw [unhide HRZ]
              exact CkQ.err (by decide) (below_step (unhide HB1) (below_step (unhide HBx) hb5))
          · have h9 : ¬ (k : Int) < (N : Int) := by omega
            have HRZ : Hid (RR = (0, k0)) := by
              show _ = _
              have : ((xs.map fun x => x.2.2).drop 1).any (fun k => !decide (k = k0)) = false := by
                rw [List.any_eq_false]
                intro y hy
                obtain ⟨i, hi, rfl⟩ := List.mem_iff_getElem.1 hy
                have hi2 : i + 1 < xs.length := by simp at hi; omega
                have := unhide HM i _ (by have := unhide HXL; have := unhide HN; omega) (List.getElem?_eq_getElem hi2)
                simp only [decide_eq_true_eq] at this
                simp [Nat.add_comm 1 i, this]
              rw [unhide HRQ, this]
              rfl
            have d0 := clater (unhide HD0) (unhide HBx)
            clear HM
            go_wp2
            refine bodyPost_ret (v := .tuple #[.slice ax k0.length cx, .int .i64 0]) (by simp [results, Tryz.results17, go_sem]) rfl ?_
            rw [unhide HRZ]
            exact CkQ.old ((unhide HK0).later (unhide HBx)) (unhide HS0X) (below_step (unhide HB1) (unhide HBx))
      · have hRR : RR = (0, p.cols) := by rw [unhide HR]; unfold chkOp; rw [o]; rfl
        have e1 : (p.op == 1) = false := by rw [o]; rfl
        have e12 : (p.op == 12) = true := by rw [o]; rfl
        clear o c2 c4 c5 c6 c7 c8 c9 HR
        have HRQ := hide hRR
        clear hRR
        go_wp2
        refine bodyPost_ret (v := .tuple #[.slice m.aC p.cols.length m.cC, .int .i64 0]) (by simp [results, Tryz.results17, go_sem]) rfl ?_
        rw [unhide HRQ]
        exact CkQ.old ((unhide HA).o.c.later (unhide H01)) (fun b off e hne => .inl (ints_lt (unhide HA).o.c e hne)) (unhide HB1)
theorem check_all (ts : List Tb) (hw : wellB ts = true) (hft : ∀ t ∈ ts, t.fin) (htl : ts.length ≤ 1048576) (aT : Option Addr) (cT : Nat) (w0 : World) (hT : Tbs w0 aT ts) : ∀ (k : Nat) (p : Pl), p.size ≤ k → p.fin → bltP p = true → ∀ (m : Pm) (w : World), PlM w0 p m → Below w0.heap.size w0 w → Calls Tryz.prog 17 #[p.val m, .slice aT ts.length cT] w (CkQ w0 (chkP ts p) w)
  | 0, p, hs, _, _, _, _, _, _ => by rw [Pl.size_mk] at hs; omega
  | k + 1, p, hs, hf, hb, m, w, ha, h0 => check_step ts hw hft htl aT cT p hf hb m w0 w h0 ha hT fun i x hx m' W hm hW => check_all ts hw hft htl aT cT w0 hT k x (by have := Pl.size_arg hx; omega) (Pl.fin_arg hf hx) (by
      rw [bltP_eq] at hb
      simp only [Bool.and_eq_true, Bool.not_eq_true'] at hb
      have := any_out hb.2 (List.mem_of_getElem? hx)
      simpa using this) m' W hm hW
/-- tallyref.check (17). -/
theorem check_any (ts : List Tb) (hw : wellB ts = true) (hft : ∀ t ∈ ts, t.fin) (htl : ts.length ≤ 1048576) (aT : Option Addr) (cT : Nat) (p : Pl) (hf : p.fin) (hb : bltP p = true) (m : Pm) (w : World) (ha : PlM w p m) (hT : Tbs w aT ts) : Calls Tryz.prog 17 #[p.val m, .slice aT ts.length cT] w (CkQ w (chkP ts p) w) :=
  check_all ts hw hft htl aT cT w hT p.size p (Nat.le_refl _) hf hb m w ha (Below.refl _ _)
end Go.Proofs.YtcpndojkfngioaaGreat
