import Derived.Test.YtcpndojkfngioaaGreatLkG
set_option linter.unusedSimpArgs false
set_option linter.unusedVariables false
namespace Go.Proofs.YtcpndojkfngioaaGreat
open Go.RowKit Go.Sort

/-- What looked answers: a node, an error; if there is none, the node's kinds, in memory of their own. -/
def LdQ (R : Int × List Int) (w : World) (r : Ending) (w' : World) : Prop := ∃ x : Nv, r = .returned (.tuple #[x.v, .int .i64 R.1]) ∧ (R.1 = 0 → x.k.2.2 = R.2 ∧ OwnI w' w.heap.size (.slice x.k.1 x.k.2.2.length x.k.2.1) x.k.2.2) ∧ Below w.heap.size w w'
/-- The node of a plan that is being looked at. -/
def nodA (p : Pl) (m : Pm) (na : Option Addr) (k nc : Nat) : Nv := ⟨p, m, zeroN.t, zeroN.tm, (none, 0, []), na, k, nc⟩
theorem own_sep {w : World} {b1 b2 : Nat} {v u : Value} {xs : List Int} {ys : List Nv} (h1 : OwnI w b1 v xs) (h2 : OwnN w b2 u ys) : v.ownBlock = none ∨ v.ownBlock ≠ u.ownBlock := by
  rcases h1.2 with ⟨rfl, _⟩ | ⟨g, cap, cur, rfl, _, hg, _⟩
  · exact .inl rfl
  · rcases h2.2 with ⟨rfl, _⟩ | ⟨g', cap', cur', rfl, _, hg', _⟩
    · exact .inr (by simp [Value.ownBlock])
    · refine .inr fun e => ?_
      simp [Value.ownBlock] at e
      subst e
      rw [hg] at hg'
      injection hg' with hg'
      injection hg' with _ h3
      exact absurd h3 (by decide)
/-- The kinds of these nodes, each in memory of its own. -/
def KS (w : World) (base : Nat) (ys : List Nv) : Prop := ∀ y ∈ ys, OwnI w base (.slice y.k.1 y.k.2.2.length y.k.2.1) y.k.2.2
theorem KS.later {w w' : World} {base : Nat} {ys : List Nv} (h : KS w base ys) (hb : Below w.heap.size w w') : KS w' base ys := fun y hy => (h y hy).later hb
theorem KS.list {w w' : World} {base b2 : Nat} {ys zs : List Nv} {u : Value} (h : KS w base ys) (hg : w.grownBy w' u.ownBlock) (hu : OwnN w b2 u zs) : KS w' base ys := fun y hy => World.ownsRow.kept (h y hy) hg (own_sep (h y hy) hu)
theorem KS.low {w w' : World} {base b : Nat} {ys : List Nv} (h : KS w base ys) (hg : w.grownBy w' (some b)) (hb : b < base) : KS w' base ys := fun y hy => World.ownsRow.kept (h y hy) hg (by
  cases hq : (Value.slice y.k.1 y.k.2.2.length y.k.2.1).ownBlock with
  | none => exact .inl rfl
  | some g => refine .inr fun e => ?_
              injection e with e
              have := (World.ownsRow.lt (h y hy) g hq).1
              omega)
theorem ownN_low {w w' : World} {base b : Nat} {ys : List Nv} {v : Value} (h : OwnN w base v ys) (hg : w.grownBy w' (some b)) (hb : b < base) : OwnN w' base v ys := World.ownsRow.kept h hg (by
  cases hq : v.ownBlock with
  | none => exact .inl rfl
  | some g => refine .inr fun e => ?_
              injection e with e
              have := (World.ownsRow.lt h g hq).1
              omega)
theorem OwnN.later {w w' : World} {base : Nat} {ys : List Nv} {v : Value} (h : OwnN w base v ys) (hb : Below w.heap.size w w') : OwnN w' base v ys := own_later h hb
theorem grown_out {wa W W' : World} {b : Nat} {row : Option Nat} (h : wa.grownBy W (some b)) (h2 : W.grownBy W' row) (hr : ∀ g, row = some g → wa.heap.size ≤ g) : wa.grownBy W' (some b) :=
  ⟨h2.os.trans h.os, h2.tape.trans h.tape, h2.output.trans h.output, Nat.le_trans h.size h2.size, fun k hk hn => (h2.block k (Nat.lt_of_lt_of_le hk h.size) (fun e => by have := hr k e.symm; omega)).trans (h.block k hk hn)⟩
theorem own_nodes {w : World} {base k cap : Nat} {a : Option Addr} {ys : List Nv} (h : OwnN w base (.slice a k cap) ys) (hk : KS w base ys) : NsAt w a ys := by
  by_cases hl : ys = []
  · exact .inl hl
  · obtain ⟨g, rfl⟩ := h.blk (by cases ys with | nil => exact absurd rfl hl | cons _ _ => simp)
    exact .inr ⟨g, rfl, fun i y hy => ⟨h.sxt hy, (hk y (List.mem_of_getElem? hy)).ints⟩⟩
theorem ownN_ge {w : World} {base k cap : Nat} {a : Option Addr} {ys : List Nv} (h : OwnN w base (.slice a k cap) ys) {g off : Nat} (e : a = some ⟨g, off, none⟩) : base ≤ g := by
  rcases h.2 with ⟨e', _⟩ | ⟨g', cap', cur, e', hb, _⟩
  · injection e' with e1
    rw [e] at e1
    cases e1
  · injection e' with e1
    rw [e] at e1
    injection e1 with e1
    injection e1 with e1
    rw [e1]
    exact hb
theorem ownN_nil (w : World) (base : Nat) : OwnN w base (.slice none 0 0) [] := World.ownsRow_nil _ _ _ _
theorem Nod.tab {w : World} {b : Nat} {x : Nv} (h : Nod w b x) (t : Tb) (tm : Tm) : Nod (w.setCells b 11 [.string t.name, .slice tm.aC t.cols.length tm.cC, .slice tm.aR t.rows.length tm.cR]) b { x with t := t, tm := tm } := by
  have hsome := h.here
  obtain ⟨⟨⟨c0, c1, c2, c3, c4, c5, c6, c7, c8, c9, c10⟩, ⟨d0, d1, d2⟩, hk, ha⟩, hf⟩ := h
  simp only [Nat.zero_add, Nat.reduceAdd] at c0 c1 c2 c3 c4 c5 c6 c7 c8 c9 c10 d0 d1 d2 hk ha
  have hn : ∀ o, o < 11 ∨ 14 ≤ o → (w.setCells b 11 [.string t.name, .slice tm.aC t.cols.length tm.cC, .slice tm.aR t.rows.length tm.cR]).cell? ⟨b, o, none⟩ = w.cell? ⟨b, o, none⟩ := fun o ho => World.cell?_setCells_out b _ 11 w _ (fun _ _ => by simp; omega)
  have hi : ∀ (j : Nat) (v : Value) (hj : j < 3), [Value.string t.name, .slice tm.aC t.cols.length tm.cC, .slice tm.aR t.rows.length tm.cR][j]? = some v → (w.setCells b 11 [.string t.name, .slice tm.aC t.cols.length tm.cC, .slice tm.aR t.rows.length tm.cR]).cell? ⟨b, 11 + j, none⟩ = some v := fun j v hj hv => by
    rw [World.cell?_setCells_in b _ 11 w (fun j hj => hsome (11 + j) (by simp at hj; omega)) j (show j < [Value.string t.name, .slice tm.aC t.cols.length tm.cC, .slice tm.aR t.rows.length tm.cR].length from hj)]
    obtain ⟨_, hv⟩ := List.getElem?_eq_some_iff.1 hv
    rw [hv]
  refine ⟨⟨⟨?_, ?_, ?_, ?_, ?_, ?_, ?_, ?_, ?_, ?_, ?_⟩, ⟨?_, ?_, ?_⟩, ?_, ?_⟩, fun o => by rw [World.frozen?_setCells]; exact hf o⟩
  all_goals first
    | (try simp only [Nat.zero_add, Nat.reduceAdd]
       rw [hn _ (by decide)]
       assumption)
    | exact hi 0 _ (by decide) rfl
    | exact hi 1 _ (by decide) rfl
    | exact hi 2 _ (by decide) rfl
theorem info45K : (Tryz.prog.info? 45).map (fun i => (i.zero, i.size, i.bytes)) = some (some (.agg #[.string ⟨#[]⟩, .slice none 0 0, .slice none 0 0]), 3, 64) := by kernel_rfl
theorem Nod.tabRun {w : World} {b : Nat} {x : Nv} (h : Nod w b x) (t : Tb) (tm : Tm) : (Instr.storeAt 45 (.pointer (some ⟨b, 11, none⟩)) (t.val tm)).run Tryz.prog w = .ok () (w.setCells b 11 [.string t.name, .slice tm.aC t.cols.length tm.cC, .slice tm.aR t.rows.length tm.cR]) := by
  obtain ⟨i, hi, hz, hs, _⟩ := info_parts info45K
  have hst := run_storeCells_cells (P := Tryz.prog) b 11 [.string t.name, .slice tm.aC t.cols.length tm.cC, .slice tm.aR t.rows.length tm.cR] 0 w (fun j hj => h.here (11 + 0 + j) (by simp at hj; omega)) (fun j hj => h.f _) (by
    intro u hu
    simp only [List.mem_cons, List.not_mem_nil, or_false] at hu
    rcases hu with rfl | rfl | rfl <;> rfl)
  rw [Nat.add_zero] at hst
  have hc : (t.val tm).cells.toList = [.string t.name, .slice tm.aC t.cols.length tm.cC, .slice tm.aR t.rows.length tm.cR] := rfl
  have hcs : (t.val tm).cells.size = 3 := rfl
  simp [Instr.storeAt, storeVar, Instr.sureAddr, sizeOf, typeInfo, hi, hs, hcs, hc, hst]
set_option maxRecDepth 100000 in
set_option maxHeartbeats 4000000 in
theorem Sxt.var {w : World} {b : Nat} {x : Nv} (h : Sxt w b 0 x) : (loadVar 51 ⟨b, 0, none⟩).run Tryz.prog w = .ok x.v w := by
  obtain ⟨⟨c0, c1, c2, c3, c4, c5, c6, c7, c8, c9, c10⟩, ⟨d0, d1, d2⟩, k, a⟩ := h
  simp only [Nat.zero_add, Nat.add_assoc, Nat.reduceAdd] at c0 c1 c2 c3 c4 c5 c6 c7 c8 c9 c10 d0 d1 d2 k a
  unfold Nv.v
  go_simp
theorem res16 {W : World} {Z : Nat} {x : Nv} {er : Int} {tmps : Array Value} (hv : (loadVar 51 ⟨Z, 0, none⟩).run Tryz.prog W = .ok x.v W) (h4 : tmps.getD 4 undef = .pointer (some ⟨Z, 0, none⟩)) (h5 : tmps.getD 5 undef = .int .i64 er) : (results Tryz.f16 tmps).run Tryz.prog W = .ok (.tuple #[x.v, .int .i64 er]) W := by
  have h4' : tmps[4]?.getD undef = .pointer (some ⟨Z, 0, none⟩) := by simpa using h4
  have h5' : tmps[5]?.getD undef = .int .i64 er := by simpa using h5
  simp [results, Tryz.results16, h4', h5', asAddr, hv]
theorem ownN_someN {w : World} {base g cap k N : Nat} {ys : List Nv} {z : Nv} (h : OwnN w base (.slice (some ⟨g, 0, none⟩) N cap) (ys ++ [z])) (hk : ys.length = k) (hN : N = k + 1) : (∀ j, j < 16 → (w.cell? ⟨g, k * 16 + j, none⟩).isSome = true) ∧ ∀ j, j < 16 → w.frozen? ⟨g, k * 16 + j, none⟩ = false := by
  subst hN
  exact ownN_some h hk
theorem OwnN.putN {w : World} {base g cap k N : Nat} {ys : List Nv} {z : Nv} (h : OwnN w base (.slice (some ⟨g, 0, none⟩) N cap) (ys ++ [z])) (hk : ys.length = k) (hN : N = k + 1) (y : Nv) : OwnN (w.setCells g (k * 16) y.cs) base (.slice (some ⟨g, 0, none⟩) N cap) (ys ++ [y]) := by
  subst hN
  exact h.put hk y
theorem nodA_box (p : Pl) (m : Pm) : (nodA p m none 0 0).box = (.cells #[.int .i64 p.op, .string p.tab, .slice m.aE p.ex.length m.cE, .slice m.aC p.cols.length m.cC, .slice m.aK p.keys.length m.cK, .slice m.aA p.aggs.length m.cA, .int .i64 p.fn, .int .i64 p.col, .int .i64 p.n, .int .i64 p.off, .slice m.aP p.args.length m.cP, .string ⟨#[]⟩, .slice none 0 0, .slice none 0 0, .slice none 0 0, .slice none 0 0] 51) := rfl
theorem zeroN_box : zeroN.box = (.cells #[.int .i64 0, .string ⟨#[]⟩, .slice none 0 0, .slice none 0 0, .slice none 0 0, .slice none 0 0, .int .i64 0, .int .i64 0, .int .i64 0, .int .i64 0, .slice none 0 0, .string ⟨#[]⟩, .slice none 0 0, .slice none 0 0, .slice none 0 0, .slice none 0 0] 51) := rfl
set_option maxHeartbeats 8000000 in
set_option maxRecDepth 100000 in
theorem looked_step (ts : List Tb) (hw : wellB ts = true) (hft : ∀ t ∈ ts, t.fin) (htl : ts.length ≤ 1048576) (aT : Option Addr) (cT : Nat) (p : Pl) (hf : p.fin) (hb : bltP p = true) (m : Pm) (w0 w : World) (h0 : Below w0.heap.size w0 w) (ha : PlM w0 p m) (hT : Tbs w0 aT ts)
    (IH : ∀ (i : Nat) x, p.args[i]? = some x → ∀ m' W, PlM w0 x m' → Below w0.heap.size w0 W → Calls Tryz.prog 16 #[x.val m', .slice aT ts.length cT] W (LdQ (chkP ts x) W)) :
    Calls Tryz.prog 16 #[p.val m, .slice aT ts.length cT] w (LdQ (chkP ts p) w) := by
  obtain ⟨⟨f1, f2, f3, f4, f5, f6, f7, fc, fk, fa⟩, hfx, _⟩ := Pl.fin_open hf
  have hbb := hb
  rw [bltP_eq] at hbb
  simp only [Bool.and_eq_true, Bool.not_eq_true'] at hbb
  have HSD := hide hbb.1
  have HWL := hide hw
  have HAK : Hid (∀ (i : Nat) x, p.args[i]? = some x → (chkP ts x).1 = 0 → KOk (chkP ts x).2) := fun i x hx h => chkP_ok hw x.size x (Nat.le_refl _) (by have := any_out hbb.2 (List.mem_of_getElem? hx); simpa using this) h
  obtain ⟨RR, hRR⟩ : ∃ RR, RR = chkP ts p := ⟨_, rfl⟩
  rw [← hRR]
  have HRR := hide hRR
  have hbA := below_alloc (Below.refl _ w) (p.box m)
  have hbB := below_alloc (Below.refl _ (w.alloc (p.box m))) zeroN.box
  have hbC := below_alloc (Below.refl _ ((w.alloc (p.box m)).alloc zeroN.box)) (nodA p m none 0 0).box
  have hs1 : (w.alloc (p.box m)).heap.size = w.heap.size + 1 := by simp [go_sem]
  have hs2 : ((w.alloc (p.box m)).alloc zeroN.box).heap.size = w.heap.size + 1 + 1 := by simp [go_sem]
  have hs3 : (((w.alloc (p.box m)).alloc zeroN.box).alloc (nodA p m none 0 0).box).heap.size = w.heap.size + 1 + 1 + 1 := by simp [go_sem]
  have HL0 := hide ((Elv.new w p m).later hbB).load
  have HE := hide ((Elv.new w p m).later (below_step hbB hbC))
  have hZ := (Nod.new (w.alloc (p.box m)) zeroN).later hbC
  rw [hs1] at hZ
  have HZ := hide hZ
  have hN := Nod.new ((w.alloc (p.box m)).alloc zeroN.box) (nodA p m none 0 0)
  rw [hs2] at hN
  have HN := hide hN
  have HB := hide (below_step hbA (below_step hbB hbC))
  have HS3 := hide hs3
  have H0 := hide h0
  have HA := hide ha
  have HF := hide hf
  have HFT := hide hft
  have HT := hide hT
  have HIH := hide IH
  rw [Pl.val_open] at HL0 ⊢
  rw [nodA_box, zeroN_box] at HE HZ HN HB HS3
  rw [zeroN_box] at HL0
  unfold Pl.box at HE HB HL0 HZ HN HS3
  clear hRR hbA hbB hbC hs1 hs2 hs3 hZ hN h0 ha hf hft hT IH hw hb hbb hfx fc fk fa
  obtain ⟨wa, hwa⟩ : ∃ wa, wa = ((w.alloc (.cells #[.int .i64 p.op, .string p.tab, .slice m.aE p.ex.length m.cE, .slice m.aC p.cols.length m.cC, .slice m.aK p.keys.length m.cK, .slice m.aA p.aggs.length m.cA, .int .i64 p.fn, .int .i64 p.col, .int .i64 p.n, .int .i64 p.off, .slice m.aP p.args.length m.cP] 28)).alloc (.cells #[.int .i64 0, .string ⟨#[]⟩, .slice none 0 0, .slice none 0 0, .slice none 0 0, .slice none 0 0, .int .i64 0, .int .i64 0, .int .i64 0, .int .i64 0, .slice none 0 0, .string ⟨#[]⟩, .slice none 0 0, .slice none 0 0, .slice none 0 0, .slice none 0 0] 51)).alloc (.cells #[.int .i64 p.op, .string p.tab, .slice m.aE p.ex.length m.cE, .slice m.aC p.cols.length m.cC, .slice m.aK p.keys.length m.cK, .slice m.aA p.aggs.length m.cA, .int .i64 p.fn, .int .i64 p.col, .int .i64 p.n, .int .i64 p.off, .slice m.aP p.args.length m.cP, .string ⟨#[]⟩, .slice none 0 0, .slice none 0 0, .slice none 0 0, .slice none 0 0] 51) := ⟨_, rfl⟩
  rw [← hwa] at HE HB HZ HN HS3
  have HWA := hide hwa
  have c10 := (unhide HE).c10
  simp only [Nat.zero_add] at c10
  clear hwa
  go_enter Tryz.func16, Tryz.ntmps16
  go_upto_region 2 with (refine wpList_load_w ?_ 28 (.tmp 2) rfl _ (by simp [Act.eval]) _ (unhide HL0) ?_; · simp [Region.wanted, yielded])
  rw [← unhide HWA]
  clear HWA HL0
  obtain ⟨B, hBe⟩ : ∃ B, B = w.heap.size + 1 + 1 := ⟨_, rfl⟩
  obtain ⟨Z, hZe⟩ : ∃ Z, Z = w.heap.size + 1 := ⟨_, rfl⟩
  rw [← hBe] at HN HS3 ⊢
  rw [← hZe] at HZ ⊢
  have HBE := hide hBe
  have HZE := hide hZe
  have H0a := hide (below_step (unhide H0) (unhide HB))
  have HFR : Hid (∀ W, wa.grownBy W (some B) → Below w0.heap.size w0 W ∧ Below w.heap.size w W ∧ Elv W w.heap.size 0 p m ∧ Nod W Z zeroN) := by
    intro W hG
    have q1 := unhide HS3
    have q2 := unhide HBE
    have q3 := unhide HZE
    have q4 := (unhide H0).size
    refine ⟨(unhide H0a).trans (grown_below hG (unhide H0a).size (fun g hg => by injection hg with hg; omega)), (unhide HB).trans (grown_below hG (unhide HB).size (fun g hg => by injection hg with hg; omega)), (unhide HE).grown hG (fun e => by injection e with e; omega), (unhide HZ).grown hG (fun e => by injection e with e; omega)⟩
  clear hBe hZe
  go_wp2_with fail
  go_loopw [18] (fun i wr => ∃ (k : Nat) (na : Option Addr) (nc : Nat) (ys : List Nv), k ≤ p.args.length ∧ i = .int .i64 (k : Int) ∧ Hid (ys.length = k) ∧ Hid (Nod wr B (nodA p m na k nc)) ∧ Hid (OwnN wr wa.heap.size (.slice na k nc) ys) ∧ Hid (KS wr wa.heap.size ys) ∧ Hid (∀ (j : Nat) y, j < k → p.args[j]? = some y → (chkP ts y).1 = 0) ∧ Hid (insOf ys = (p.args.take k).map (fun y => (chkP ts y).2)) ∧ Hid (wa.grownBy wr (some B))) (fun i _ => p.args.length - (intOf i).toNat)
  case atStart => exact ⟨0, none, 0, [], Nat.zero_le _, rfl, rfl, unhide HN, ownN_nil _ _, (fun y hy => by cases hy), (fun j y hj => absurd hj (by omega)), (by show _ = _; simp [insOf]), grown_of_below _ (Below.refl _ _)⟩
  case round =>
    clear c10
    obtain ⟨k, na, nc, ys, hk, rfl, HYL, HND, HON, HKS, HOK, HIN, HG⟩ := hrel
    obtain ⟨hW0, hWw, hEw, hZw⟩ := unhide HFR wr (unhide HG)
    have HW0 := hide hW0
    have HWw := hide hWw
    have HEw := hide hEw
    have HZw := hide hZw
    clear hW0 hWw hEw hZw
    by_cases hlt : k < p.args.length
    · have h9 : (k : Int) < (p.args.length : Int) := by omega
      obtain ⟨x, hx⟩ : ∃ x, p.args[k]? = some x := ⟨_, List.getElem?_eq_getElem hlt⟩
      obtain ⟨vb, vo, ea, hat⟩ := Pl.all_get (unhide HA).p hx
      obtain ⟨m', hel, h4, hal⟩ := Pl.at_open hat
      have hba := below_alloc (Below.refl _ wr) (x.box m')
      have HBa := hide hba
      have HLD := hide (hel.later (unhide HW0)).load
      have HL2 := hide (Elv.new wr x m').load
      have HC := hide (unhide HIH k x hx m' (wr.alloc (x.box m')) (PlM.mk h4 hal) (below_step (unhide HW0) hba))
      have HX := hide hx
      have HTK := hide (take_snocI (fun y => (chkP ts y).2) hx)
      have HWS : Hid (wr.heap.size ≤ (wr.alloc (x.box m')).heap.size) := hba.size
      rw [Pl.val_open] at HLD HL2 HC
      unfold Pl.box at HC HBa HL2 HWS
      rw [ea]
      clear hx hat hal hba hel h4 ea
      obtain ⟨er, her⟩ : ∃ er, er = (chkP ts x).1 := ⟨_, rfl⟩
      obtain ⟨kx, hkx⟩ : ∃ kx, kx = (chkP ts x).2 := ⟨_, rfl⟩
      have HER := hide her
      have HKX := hide hkx
      have HCX : Hid (chkP ts x = (er, kx)) := by show _ = _; rw [her, hkx]
      rw [unhide HCX] at HC
      rw [← hkx] at HTK
      clear her hkx
      by_cases hz : er = 0
      · subst hz
        have HOK2 : Hid (∀ (j : Nat) y, j < k + 1 → p.args[j]? = some y → (chkP ts y).1 = 0) := by
          intro j y hj hy
          rcases Nat.lt_or_eq_of_le (Nat.le_of_lt_succ hj) with h | rfl
          · exact unhide HOK j y h hy
          · rw [unhide HX] at hy; injection hy with hy; rw [← hy]; exact (unhide HER).symm
        clear HX HOK HER HKX HCX
        go_upto_region 8 with (first
          | (refine wpList_load_w ?_ 28 (.tmp 20) rfl _ (by simp [Act.eval]) _ (unhide HLD) ?_; · simp [Region.wanted, yielded])
          | (refine wpList_load_w ?_ 28 (.tmp 8) rfl _ (by simp [Act.eval]) _ (unhide HL2) ?_; · simp [Region.wanted, yielded])
          | (go_at_call 16; refine (unhide HC).mono ?_; rintro r w3 ⟨y, rfl, hok, hb3⟩; have HOKY := hide hok; clear hok; rw [Nv.open_]))
        obtain ⟨w4, hw4⟩ : ∃ w4, w4 = w3.alloc (.cells #[.int .i64 y.q.op, .string y.q.tab, .slice y.m.aE y.q.ex.length y.m.cE, .slice y.m.aC y.q.cols.length y.m.cC, .slice y.m.aK y.q.keys.length y.m.cK, .slice y.m.aA y.q.aggs.length y.m.cA, .int .i64 y.q.fn, .int .i64 y.q.col, .int .i64 y.q.n, .int .i64 y.q.off, .slice y.m.aP y.q.args.length y.m.cP, .string y.t.name, .slice y.tm.aC y.t.cols.length y.tm.cC, .slice y.tm.aR y.t.rows.length y.tm.cR, .slice y.k.1 y.k.2.2.length y.k.2.1, .slice y.na y.nl y.nc] 51) := ⟨_, rfl⟩
        obtain ⟨q, hq⟩ : ∃ q, q = w3.heap.size := ⟨_, rfl⟩
        have HY4 := hide (Nod.new w3 y).s
        have HB34 := hide (below_alloc (Below.refl _ w3) (.cells #[.int .i64 y.q.op, .string y.q.tab, .slice y.m.aE y.q.ex.length y.m.cE, .slice y.m.aC y.q.cols.length y.m.cC, .slice y.m.aK y.q.keys.length y.m.cK, .slice y.m.aA y.q.aggs.length y.m.cA, .int .i64 y.q.fn, .int .i64 y.q.col, .int .i64 y.q.n, .int .i64 y.q.off, .slice y.m.aP y.q.args.length y.m.cP, .string y.t.name, .slice y.tm.aC y.t.cols.length y.tm.cC, .slice y.tm.aR y.t.rows.length y.tm.cR, .slice y.k.1 y.k.2.2.length y.k.2.1, .slice y.na y.nl y.nc] 51))
        have hB34 := unhide HB34
        have HK3 : Hid (y.k.2.2 = kx ∧ OwnI (w3.alloc (.cells #[.int .i64 y.q.op, .string y.q.tab, .slice y.m.aE y.q.ex.length y.m.cE, .slice y.m.aC y.q.cols.length y.m.cC, .slice y.m.aK y.q.keys.length y.m.cK, .slice y.m.aA y.q.aggs.length y.m.cA, .int .i64 y.q.fn, .int .i64 y.q.col, .int .i64 y.q.n, .int .i64 y.q.off, .slice y.m.aP y.q.args.length y.m.cP, .string y.t.name, .slice y.tm.aC y.t.cols.length y.tm.cC, .slice y.tm.aR y.t.rows.length y.tm.cR, .slice y.k.1 y.k.2.2.length y.k.2.1, .slice y.na y.nl y.nc] 51)) wa.heap.size (.slice y.k.1 y.k.2.2.length y.k.2.1) y.k.2.2) := ⟨(unhide HOKY (by first | trivial | rfl)).1, ((unhide HOKY (by first | trivial | rfl)).2.later hB34).base_le (Nat.le_trans (unhide HG).size (unhide HWS))⟩
        have HQ : Hid (wr.heap.size ≤ q ∧ w3.heap.size < (w3.alloc (.cells #[.int .i64 y.q.op, .string y.q.tab, .slice y.m.aE y.q.ex.length y.m.cE, .slice y.m.aC y.q.cols.length y.m.cC, .slice y.m.aK y.q.keys.length y.m.cK, .slice y.m.aA y.q.aggs.length y.m.cA, .int .i64 y.q.fn, .int .i64 y.q.col, .int .i64 y.q.n, .int .i64 y.q.off, .slice y.m.aP y.q.args.length y.m.cP, .string y.t.name, .slice y.tm.aC y.t.cols.length y.tm.cC, .slice y.tm.aR y.t.rows.length y.tm.cR, .slice y.k.1 y.k.2.2.length y.k.2.1, .slice y.na y.nl y.nc] 51)).heap.size) := by
          refine ⟨?_, ?_⟩
          · have q1 := unhide HWS; have q2 := hb3.size; show wr.heap.size ≤ q; omega
          · show w3.heap.size < (w3.alloc (.cells #[.int .i64 y.q.op, .string y.q.tab, .slice y.m.aE y.q.ex.length y.m.cE, .slice y.m.aC y.q.cols.length y.m.cC, .slice y.m.aK y.q.keys.length y.m.cK, .slice y.m.aA y.q.aggs.length y.m.cA, .int .i64 y.q.fn, .int .i64 y.q.col, .int .i64 y.q.n, .int .i64 y.q.off, .slice y.m.aP y.q.args.length y.m.cP, .string y.t.name, .slice y.tm.aC y.t.cols.length y.tm.cC, .slice y.tm.aR y.t.rows.length y.tm.cR, .slice y.k.1 y.k.2.2.length y.k.2.1, .slice y.na y.nl y.nc] 51)).heap.size; simp [go_sem]
        have HB4 := hide (below_step (unhide HBa) (below_step hb3 hB34))
        unfold Nv.box at HY4
        rw [← hq] at HY4 HQ ⊢
        rw [← hw4] at HY4 HK3 HQ HB4 ⊢
        clear HB34 hB34 HOKY hb3 hw4 hq
        have HN4 := hide ((unhide HND).later (unhide HB4))
        have HO4 := hide ((unhide HON).later (unhide HB4))
        have HK4 := hide ((unhide HKS).later (unhide HB4))
        have HG4 := hide (grown_trans (unhide HG) (grown_of_below (some B) (unhide HB4)))
        have hNk : ((k : Nat) : Int) < (((k + 1 : Nat)) : Int) := by omega
        have hN15 := (unhide HN4).s.a
        simp only [Nat.zero_add] at hN15
        have HDR := hide ((Below.refl w4.heap.size w4).drew)
        have HS0 : Hid ((w4.drew).cell? ⟨B, 15, none⟩ = some (.slice na k nc) ∧ Sxt w4.drew q 0 y) := ⟨clater hN15 (unhide HDR), (unhide HY4).later (unhide HDR)⟩
        refine wp_region_noPanic ?_
        refine wp_region_G (S := fun w' : World => w'.cell? ⟨B, 15, none⟩ = some (.slice na k nc) ∧ Sxt w' q 0 y) (k := 9) (by kernel_rfl) ?_
        refine anyG_takel (i := 0) (v := (.pointer (some ⟨B, 15, none⟩))) [1, 3, 5, 6, 7, 8, 9] rfl (by kernel_rfl) (by kernel_rfl) (by kernel_rfl) (by kernel_rfl) (fun _ _ _ h => h) (Or.inl ⟨by rfl, fun w' hSw => ?_⟩) (unhide HS0) ?_
        · go_simp
        try simp only [Act.put, List.setIfInBounds_toArray, List.set_cons_zero, List.set_cons_succ]
        refine anyG_takel (i := 1) (v := (.slice na k nc)) [3, 5, 6, 7, 8, 9] rfl (by kernel_rfl) (by kernel_rfl) (by kernel_rfl) (by kernel_rfl) (fun _ _ _ h => h) (Or.inl ⟨by rfl, fun w' hSw => ?_⟩) (unhide HS0) ?_
        · obtain ⟨e5, _⟩ := hSw; go_simp
        try simp only [Act.put, List.setIfInBounds_toArray, List.set_cons_zero, List.set_cons_succ]
        refine anyG_takel (i := 2) (v := (y.v)) [5, 6, 7, 8, 9] rfl (by kernel_rfl) (by kernel_rfl) (by kernel_rfl) (by kernel_rfl) (fun _ _ _ h => h) (Or.inl ⟨by rfl, fun w' hSw => ?_⟩) (unhide HS0) ?_
        · obtain ⟨_, ⟨⟨b0, b1, b2, b3, b4, b5, b6, b7, b8, b9, b10⟩, ⟨b11, b12, b13⟩, b14, b15⟩⟩ := hSw; simp only [Nat.zero_add, Nat.reduceAdd] at b0 b1 b2 b3 b4 b5 b6 b7 b8 b9 b10 b11 b12 b13 b14 b15; rw [Nv.open_]; go_simp
        try simp only [Act.put, List.setIfInBounds_toArray, List.set_cons_zero, List.set_cons_succ]
        refine anyG_takel (i := 3) (v := (.int .i64 (k : Int))) [5, 6, 7, 8, 9] rfl (by kernel_rfl) (by kernel_rfl) (by kernel_rfl) (by kernel_rfl) (fun _ _ _ h => h) (Or.inl ⟨by rfl, fun w' hSw => ?_⟩) (unhide HS0) ?_
        · go_simp
        try simp only [Act.put, List.setIfInBounds_toArray, List.set_cons_zero, List.set_cons_succ]
        have HOLD : ∀ g, (Value.slice na k nc).ownBlock = some g → g < wr.heap.size := fun g hg => (World.ownsRow.lt (unhide HON) g hg).2
        obtain ⟨W0, hW0⟩ : ∃ W, W = w4.drew := ⟨_, rfl⟩
        have HN5 := hide ((unhide HN4).later (unhide HDR))
        have HO5 := hide ((unhide HO4).later (unhide HDR))
        have HK5 := hide ((unhide HK4).later (unhide HDR))
        have HY5 := hide ((unhide HY4).later (unhide HDR))
        have HKY5 := hide ((unhide HK3).2.later (unhide HDR))
        have HG5 := hide (grown_trans (unhide HG4) (grown_of_below (some B) (unhide HDR)))
        have HQ5 : Hid (q < W0.heap.size ∧ wr.heap.size ≤ q) := by rw [hW0]; exact ⟨World.block_lt_of_cell? _ _ ((unhide HY4).later (unhide HDR)).e.c0, (unhide HQ).1⟩
        rw [← hW0] at HN5 HO5 HK5 HY5 HKY5 HG5 HS0
        change anyG _ _ _ _ _ _ _ _ _ w4.drew
        rw [← hW0]
        have HK3e := hide (unhide HK3).1
        clear hW0 HN4 HO4 HK4 HY4 HG4 HDR hN15 HQ HK3 HB4
        refine anyG_one (i := 4) (by kernel_rfl) ?_
        refine wpOp_lit rfl (by rfl) fun K' hK' => ?_
        go_simp
        obtain ⟨W1, hW1⟩ : ∃ W, W = W0.alloc (.cells #[.int .i64 0, .string ⟨#[]⟩, .slice none 0 0, .slice none 0 0, .slice none 0 0, .slice none 0 0, .int .i64 0, .int .i64 0, .int .i64 0, .int .i64 0, .slice none 0 0, .string ⟨#[]⟩, .slice none 0 0, .slice none 0 0, .slice none 0 0, .slice none 0 0] 51) := ⟨_, rfl⟩
        have hb1 := below_alloc (Below.refl _ W0) (.cells #[.int .i64 0, .string ⟨#[]⟩, .slice none 0 0, .slice none 0 0, .slice none 0 0, .slice none 0 0, .int .i64 0, .int .i64 0, .int .i64 0, .int .i64 0, .slice none 0 0, .string ⟨#[]⟩, .slice none 0 0, .slice none 0 0, .slice none 0 0, .slice none 0 0] 51)
        have HZC : Hid (∀ j u, zeroN.cs[j]? = some u → (W0.alloc (.cells #[.int .i64 0, .string ⟨#[]⟩, .slice none 0 0, .slice none 0 0, .slice none 0 0, .slice none 0 0, .int .i64 0, .int .i64 0, .int .i64 0, .int .i64 0, .slice none 0 0, .string ⟨#[]⟩, .slice none 0 0, .slice none 0 0, .slice none 0 0, .slice none 0 0] 51)).cell? ⟨W0.heap.size, j, none⟩ = some u) := by
          have h := (Nod.new W0 zeroN).s
          intro j u hu
          match j, hu with
          | 0, hu => injection hu with hu; subst hu; exact h.e.c0
          | 1, hu => injection hu with hu; subst hu; exact h.e.c1
          | 2, hu => injection hu with hu; subst hu; exact h.e.c2
          | 3, hu => injection hu with hu; subst hu; exact h.e.c3
          | 4, hu => injection hu with hu; subst hu; exact h.e.c4
          | 5, hu => injection hu with hu; subst hu; exact h.e.c5
          | 6, hu => injection hu with hu; subst hu; exact h.e.c6
          | 7, hu => injection hu with hu; subst hu; exact h.e.c7
          | 8, hu => injection hu with hu; subst hu; exact h.e.c8
          | 9, hu => injection hu with hu; subst hu; exact h.e.c9
          | 10, hu => injection hu with hu; subst hu; exact h.e.c10
          | 11, hu => injection hu with hu; subst hu; exact h.t.c0
          | 12, hu => injection hu with hu; subst hu; exact h.t.c1
          | 13, hu => injection hu with hu; subst hu; exact h.t.c2
          | 14, hu => injection hu with hu; subst hu; exact h.k
          | 15, hu => injection hu with hu; subst hu; exact h.a
          | j + 16, hu => cases hu
        obtain ⟨zb, hzb⟩ : ∃ zb, zb = W0.heap.size := ⟨_, rfl⟩
        have HN6 := hide ((unhide HN5).later hb1)
        have HO6 := hide ((unhide HO5).later hb1)
        have HK6 := hide ((unhide HK5).later hb1)
        have HY6 := hide ((unhide HY5).later hb1)
        have HKY6 := hide ((unhide HKY5).later hb1)
        have HG6 := hide (grown_trans (unhide HG5) (grown_of_below (some B) hb1))
        have HS6 : Hid ((W0.alloc (.cells #[.int .i64 0, .string ⟨#[]⟩, .slice none 0 0, .slice none 0 0, .slice none 0 0, .slice none 0 0, .int .i64 0, .int .i64 0, .int .i64 0, .int .i64 0, .slice none 0 0, .string ⟨#[]⟩, .slice none 0 0, .slice none 0 0, .slice none 0 0, .slice none 0 0] 51)).cell? ⟨B, 15, none⟩ = some (.slice na k nc) ∧ Sxt (W0.alloc (.cells #[.int .i64 0, .string ⟨#[]⟩, .slice none 0 0, .slice none 0 0, .slice none 0 0, .slice none 0 0, .int .i64 0, .int .i64 0, .int .i64 0, .int .i64 0, .slice none 0 0, .string ⟨#[]⟩, .slice none 0 0, .slice none 0 0, .slice none 0 0, .slice none 0 0] 51)) q 0 y) := ⟨clater (unhide HS0).1 hb1, (unhide HS0).2.later hb1⟩
        rw [← hzb] at HZC ⊢
        rw [← hW1] at HZC HN6 HO6 HK6 HY6 HKY6 HG6 HS6 ⊢
        have HW1s : Hid (W0.heap.size ≤ W1.heap.size) := by rw [hW1]; exact hb1.size
        clear hb1 hW1 hzb HN5 HO5 HK5 HY5 HKY5 HG5 HS0
        refine unhide hK' _ _ ⟨fun _ => unhide HS6, ?_⟩
        clear hK' K'
        refine anyG_one (i := 5) (by kernel_rfl) ?_
        refine wpOp_lit rfl (by rfl) fun K' hK' => ?_
        refine op_push_node (.tmp 33) (.tmp 36) rfl wa.heap.size (.slice na k nc) ys zeroN zb 1 rfl (unhide HO6) rfl (unhide HZC) (by rw [unhide HYL]; omega) (unhide HG6).size ?_
        intro v5 w5 hO5 hg5 hv5
        obtain ⟨a5, c5, rfl⟩ := hO5.slice
        obtain ⟨g5, rfl⟩ := hO5.blk (by simp)
        have e5 : (ys ++ [zeroN]).length = k + 1 := by rw [List.length_append, unhide HYL]; rfl
        obtain ⟨N1, hN1⟩ : ∃ N1, N1 = k + 1 := ⟨_, rfl⟩
        rw [e5, ← hN1] at hO5 hv5 ⊢
        have HN1 := hide hN1
        have hkN : (k : Int) < (N1 : Int) := by omega
        clear hN1 hNk
        have hob := World.ownsRow.lt (unhide HO6)
        have HGE : Hid (wa.heap.size ≤ g5) := ownN_ge hO5 rfl
        have hBl : B < wa.heap.size := by have := unhide HS3; omega
        have HN7 := hide ((unhide HN6).grown hg5 (fun e => by have := (hob B e.symm).1; omega))
        have HK7 : Hid (KS w5 wa.heap.size (ys ++ [y])) := by
          intro y' hy'
          rcases List.mem_append.1 hy' with h | h
          · exact (unhide HK6).list hg5 (unhide HO6) y' h
          · simp at h
            subst h
            exact World.ownsRow.kept (unhide HKY6) hg5 (own_sep (unhide HKY6) (unhide HO6))
        have HY7 := hide ((unhide HY6).grown hg5 (fun e => by have q1 := (hob q e.symm).2; have q2 := unhide HQ5; have q3 := HOLD q e.symm; omega))
        have HG7 := hide (grown_out (unhide HG6) hg5 (fun g hg => (hob g hg).1))
        have HS7 : Hid (w5.cell? ⟨B, 15, none⟩ = some (.slice na k nc) ∧ Sxt w5 q 0 y) := ⟨cell_grown (unhide HS6).1 hg5 (fun e => by have := (hob B e.symm).1; omega), unhide HY7⟩
        have HO7 := hide hO5
        have HQG : ¬ q = g5 := by
          rcases hv5 with e | e
          · intro hqq; have q2 := unhide HQ5; have q3 := HOLD g5 (e.symm.trans rfl); omega
          · intro hqq; have q2 := unhide HQ5; have q4 : g5 = W1.heap.size := (by simpa [Value.ownBlock] using e); have q5 := unhide HW1s; omega
        clear hO5 hg5 hv5 hob HN6 HO6 HK6 HY6 HKY6 HG6 HS6 HZC
        try simp only [Act.put, List.setIfInBounds_toArray, List.set_cons_zero, List.set_cons_succ]
        refine unhide hK' _ _ ⟨fun _ => unhide HS7, ?_⟩
        clear hK' K'
        refine anyG_takel (i := 8) (v := (.pointer (some ⟨B, 15, none⟩))) [9] rfl (by kernel_rfl) (by kernel_rfl) (by kernel_rfl) (by kernel_rfl) (fun _ _ _ h => h) (Or.inl ⟨by rfl, fun w' hSw => ?_⟩) (unhide HS7) ?_
        · go_simp
        try simp only [Act.put, List.setIfInBounds_toArray, List.set_cons_zero, List.set_cons_succ]
        refine anyG_many [6, 9] (by kernel_rfl) (by simp) ?_
        intro i hi
        simp only [List.mem_cons, List.not_mem_nil, or_false] at hi
        rcases hi with rfl | rfl
        · refine wpOp_lit rfl (by rfl) fun K' hK' => ?_
          go_simp
          refine unhide hK' _ _ ⟨fun _ => unhide HS7, ?_⟩
          clear hK' K'
          refine anyG_many [7, 9] (by kernel_rfl) (by simp) ?_
          intro i hi
          simp only [List.mem_cons, List.not_mem_nil, or_false] at hi
          rcases hi with rfl | rfl
          · refine wpOp_lit rfl (by rfl) fun K' hK' => ?_
            have hcs2 := ownN_someN (unhide HO7) (unhide HYL) (unhide HN1)
            refine op_store_w 51 (.tmp 38) (.tmp 34) rfl _ _ (by first | rfl | simp [Act.eval, Act.put]) (by first | rfl | simp [Act.eval, Act.put]) (run_store51 y hcs2.1 hcs2.2) ?_
            have hgc2 := grown_cells w5 g5 (k * 16) y.cs
            have HO2 := hide ((unhide HO7).putN (unhide HYL) (unhide HN1) y)
            have HN2 := hide ((unhide HN7).grown hgc2 (fun e => by injection e with e; have := unhide HGE; omega))
            have HK2 : Hid (KS (w5.setCells g5 (k * 16) y.cs) wa.heap.size (ys ++ [y])) := (unhide HK7).list (u := .slice (some ⟨g5, 0, none⟩) N1 c5) hgc2 (unhide HO7)
            have HG2 := hide (grown_out (unhide HG7) hgc2 (fun g hg => by injection hg with hg; have := unhide HGE; omega))
            have HS2 : Hid (w5.setCells g5 (k * 16) y.cs |>.cell? ⟨B, 15, none⟩ |> (· = some (.slice na k nc))) := cell_grown (unhide HS7).1 hgc2 (fun e => by injection e with e; have := unhide HGE; omega)
            have HT2 : Hid ((w5.setCells g5 (k * 16) y.cs).cell? ⟨B, 15, none⟩ = some (.slice na k nc) ∧ Sxt (w5.setCells g5 (k * 16) y.cs) q 0 y) := ⟨unhide HS2, (unhide HS7).2.grown hgc2 (fun e => by injection e with e; exact HQG e)⟩
            try simp only [Act.put, List.setIfInBounds_toArray, List.set_cons_zero, List.set_cons_succ]
            refine unhide hK' _ _ ⟨fun _ => unhide HT2, ?_⟩
            clear hK' K'
            refine anyG_one (i := 9) (by kernel_rfl) ?_
            refine wpOp_lit rfl (by rfl) fun K' hK' => ?_
            have hca3 := (unhide HN2).s.a
            simp only [Nat.zero_add] at hca3
            have hcf3 := (unhide HN2).f 15
            go_simp
            have hgc3 := grown_set (w5.setCells g5 (k * 16) y.cs) B 15 (.slice (some ⟨g5, 0, none⟩) N1 c5)
            have HO3 := hide (ownN_low (unhide HO2) hgc3 hBl)
            have HN3 := hide ((unhide HN2).args (some ⟨g5, 0, none⟩) N1 c5)
            have HK3 := hide ((unhide HK2).low hgc3 hBl)
            have HG3 := hide (grown_trans (unhide HG2) hgc3)
            refine unhide hK' _ _ ⟨fun hh => absurd hh (by decide), ?_⟩
            clear hK' K'
            refine anyG_done (by kernel_rfl) ?_ _
            refine NoPanic.normal ?_
            have HNe := HN3
            have HOe := HO3
            have HKe := HK3
            have HGe := HG3
            obtain ⟨w9, hw9⟩ : ∃ w9, w9 = ((w5.setCells g5 (k * 16) y.cs).setCell ⟨B, 15, none⟩ (.slice (some ⟨g5, 0, none⟩) N1 c5)) := ⟨_, rfl⟩
            rw [← hw9] at HNe HOe HKe HGe ⊢
            rw [unhide HN1] at HNe HOe
            clear hw9 HS7 HY7 HN7 HK7 HG7 HO7
            go_wp2
            refine ⟨⟨k + 1, some ⟨g5, 0, none⟩, c5, ys ++ [y], by omega, by go_num, (by show _ = _; rw [List.length_append, unhide HYL]; rfl), unhide HNe, unhide HOe, unhide HKe, unhide HOK2, ?_, unhide HGe⟩, by simp [intOf]; omega⟩
            show _ = _
            rw [unhide HTK, ← unhide HIN, ← unhide HK3e]
            unfold insOf
            rw [List.map_append]
            rfl
          · refine wpOp_lit rfl (by rfl) fun K' hK' => ?_
            have hca4 := (unhide HN7).s.a
            simp only [Nat.zero_add] at hca4
            have hcf4 := (unhide HN7).f 15
            go_simp
            have hgc4 := grown_set w5 B 15 (.slice (some ⟨g5, 0, none⟩) N1 c5)
            have HO4 := hide (ownN_low (unhide HO7) hgc4 hBl)
            have HN4 := hide ((unhide HN7).args (some ⟨g5, 0, none⟩) N1 c5)
            have HK4 := hide ((unhide HK7).low hgc4 hBl)
            have HG4 := hide (grown_trans (unhide HG7) hgc4)
            refine unhide hK' _ _ ⟨fun hh => absurd hh (by decide), ?_⟩
            clear hK' K'
            refine anyG_one (i := 7) (by kernel_rfl) ?_
            refine wpOp_lit rfl (by rfl) fun K' hK' => ?_
            have hcs5 := ownN_someN (unhide HO4) (unhide HYL) (unhide HN1)
            refine op_store_w 51 (.tmp 38) (.tmp 34) rfl _ _ (by first | rfl | simp [Act.eval, Act.put]) (by first | rfl | simp [Act.eval, Act.put]) (run_store51 y hcs5.1 hcs5.2) ?_
            have hgc5 := grown_cells (w5.setCell ⟨B, 15, none⟩ (.slice (some ⟨g5, 0, none⟩) N1 c5)) g5 (k * 16) y.cs
            have HO5 := hide ((unhide HO4).putN (unhide HYL) (unhide HN1) y)
            have HN5 := hide ((unhide HN4).grown hgc5 (fun e => by injection e with e; have := unhide HGE; omega))
            have HK5 : Hid (KS ((w5.setCell ⟨B, 15, none⟩ (.slice (some ⟨g5, 0, none⟩) N1 c5)).setCells g5 (k * 16) y.cs) wa.heap.size (ys ++ [y])) := (unhide HK4).list (u := .slice (some ⟨g5, 0, none⟩) N1 c5) hgc5 (unhide HO4)
            have HG5 := hide (grown_out (unhide HG4) hgc5 (fun g hg => by injection hg with hg; have := unhide HGE; omega))
            try simp only [Act.put, List.setIfInBounds_toArray, List.set_cons_zero, List.set_cons_succ]
            refine unhide hK' _ _ ⟨fun hh => absurd hh (by decide), ?_⟩
            clear hK' K'
            refine anyG_done (by kernel_rfl) ?_ _
            refine NoPanic.normal ?_
            have HNe := HN5
            have HOe := HO5
            have HKe := HK5
            have HGe := HG5
            obtain ⟨w9, hw9⟩ : ∃ w9, w9 = ((w5.setCell ⟨B, 15, none⟩ (.slice (some ⟨g5, 0, none⟩) N1 c5)).setCells g5 (k * 16) y.cs) := ⟨_, rfl⟩
            rw [← hw9] at HNe HOe HKe HGe ⊢
            rw [unhide HN1] at HNe HOe
            clear hw9 HS7 HY7 HN7 HK7 HG7 HO7
            go_wp2
            refine ⟨⟨k + 1, some ⟨g5, 0, none⟩, c5, ys ++ [y], by omega, by go_num, (by show _ = _; rw [List.length_append, unhide HYL]; rfl), unhide HNe, unhide HOe, unhide HKe, unhide HOK2, ?_, unhide HGe⟩, by simp [intOf]; omega⟩
            show _ = _
            rw [unhide HTK, ← unhide HIN, ← unhide HK3e]
            unfold insOf
            rw [List.map_append]
            rfl
        · refine wpOp_lit rfl (by rfl) fun K' hK' => ?_
          have hca6 := (unhide HN7).s.a
          simp only [Nat.zero_add] at hca6
          have hcf6 := (unhide HN7).f 15
          go_simp
          have hgc6 := grown_set w5 B 15 (.slice (some ⟨g5, 0, none⟩) N1 c5)
          have HO6 := hide (ownN_low (unhide HO7) hgc6 hBl)
          have HN6 := hide ((unhide HN7).args (some ⟨g5, 0, none⟩) N1 c5)
          have HK6 := hide ((unhide HK7).low hgc6 hBl)
          have HG6 := hide (grown_trans (unhide HG7) hgc6)
          refine unhide hK' _ _ ⟨fun hh => absurd hh (by decide), ?_⟩
          clear hK' K'
          refine anyG_one (i := 6) (by kernel_rfl) ?_
          refine wpOp_lit rfl (by rfl) fun K' hK' => ?_
          go_simp
          refine unhide hK' _ _ ⟨fun hh => absurd hh (by decide), ?_⟩
          clear hK' K'
          refine anyG_one (i := 7) (by kernel_rfl) ?_
          refine wpOp_lit rfl (by rfl) fun K' hK' => ?_
          have hcs8 := ownN_someN (unhide HO6) (unhide HYL) (unhide HN1)
          refine op_store_w 51 (.tmp 38) (.tmp 34) rfl _ _ (by first | rfl | simp [Act.eval, Act.put]) (by first | rfl | simp [Act.eval, Act.put]) (run_store51 y hcs8.1 hcs8.2) ?_
          have hgc8 := grown_cells (w5.setCell ⟨B, 15, none⟩ (.slice (some ⟨g5, 0, none⟩) N1 c5)) g5 (k * 16) y.cs
          have HO8 := hide ((unhide HO6).putN (unhide HYL) (unhide HN1) y)
          have HN8 := hide ((unhide HN6).grown hgc8 (fun e => by injection e with e; have := unhide HGE; omega))
          have HK8 : Hid (KS ((w5.setCell ⟨B, 15, none⟩ (.slice (some ⟨g5, 0, none⟩) N1 c5)).setCells g5 (k * 16) y.cs) wa.heap.size (ys ++ [y])) := (unhide HK6).list (u := .slice (some ⟨g5, 0, none⟩) N1 c5) hgc8 (unhide HO6)
          have HG8 := hide (grown_out (unhide HG6) hgc8 (fun g hg => by injection hg with hg; have := unhide HGE; omega))
          try simp only [Act.put, List.setIfInBounds_toArray, List.set_cons_zero, List.set_cons_succ]
          refine unhide hK' _ _ ⟨fun hh => absurd hh (by decide), ?_⟩
          clear hK' K'
          refine anyG_done (by kernel_rfl) ?_ _
          refine NoPanic.normal ?_
          have HNe := HN8
          have HOe := HO8
          have HKe := HK8
          have HGe := HG8
          obtain ⟨w9, hw9⟩ : ∃ w9, w9 = ((w5.setCell ⟨B, 15, none⟩ (.slice (some ⟨g5, 0, none⟩) N1 c5)).setCells g5 (k * 16) y.cs) := ⟨_, rfl⟩
          rw [← hw9] at HNe HOe HKe HGe ⊢
          rw [unhide HN1] at HNe HOe
          clear hw9 HS7 HY7 HN7 HK7 HG7 HO7
          go_wp2
          refine ⟨⟨k + 1, some ⟨g5, 0, none⟩, c5, ys ++ [y], by omega, by go_num, (by show _ = _; rw [List.length_append, unhide HYL]; rfl), unhide HNe, unhide HOe, unhide HKe, unhide HOK2, ?_, unhide HGe⟩, by simp [intOf]; omega⟩
          show _ = _
          rw [unhide HTK, ← unhide HIN, ← unhide HK3e]
          unfold insOf
          rw [List.map_append]
          rfl
      · have HZ1 : Hid (RR.1 = er) := by
          have hc := chkL_bad ts p.args k x (unhide HOK) (unhide HX) (by rw [← unhide HER]; exact hz)
          rw [← unhide HER] at hc
          show _ = _
          rw [unhide HRR, chkP_eq, if_neg (by rw [hc]; exact hz), hc]
        have bz : (er != 0) = true := by simpa using hz
        clear HX HOK HER HKX HCX
        go_wp2_with (first
          | (refine wpList_load_w ?_ 28 (.tmp 20) rfl _ (by simp [Act.eval]) _ (unhide HLD) ?_; · simp [Region.wanted, yielded])
          | (refine wpList_load_w ?_ 28 (.tmp 8) rfl _ (by simp [Act.eval]) _ (unhide HL2) ?_; · simp [Region.wanted, yielded])
          | (refine wpList_store_w rfl 51 (.tmp 4) (.tmp 30) rfl _ _ (by first | rfl | simp [Act.eval, Act.put]) (by first | rfl | simp [Act.eval, Act.put]) (unhide HZR) ?_)
          | (go_at_call 16; refine (unhide HC).mono ?_; rintro r w3 ⟨y, rfl, hok, hb3⟩; have HOKY := hide hok; clear hok; rw [Nv.open_]; have hb4 := below_step (unhide HBa) (below_step hb3 (below_alloc (Below.refl _ w3) (.cells #[.int .i64 y.q.op, .string y.q.tab, .slice y.m.aE y.q.ex.length y.m.cE, .slice y.m.aC y.q.cols.length y.m.cC, .slice y.m.aK y.q.keys.length y.m.cK, .slice y.m.aA y.q.aggs.length y.m.cA, .int .i64 y.q.fn, .int .i64 y.q.col, .int .i64 y.q.n, .int .i64 y.q.off, .slice y.m.aP y.q.args.length y.m.cP, .string y.t.name, .slice y.tm.aC y.t.cols.length y.tm.cC, .slice y.tm.aR y.t.rows.length y.tm.cR, .slice y.k.1 y.k.2.2.length y.k.2.1, .slice y.na y.nl y.nc] 51))); have HB4 := hide hb4; have hZ4 := (unhide HZw).later hb4; have HZR := hide (hZ4.storeRun zeroN); rw [zeroN_v] at HZR; clear hb4))
        have hZ5 := hZ4.store zeroN
        have HRV := hide hZ5.s.var
        refine bodyPost_ret (v := .tuple #[zeroN.v, .int .i64 er]) (res16 (unhide HRV) (by rfl) (by rfl)) rfl ?_
        exact ⟨zeroN, by rw [unhide HZ1], fun e => absurd (by rw [← unhide HZ1]; exact e) hz, (below_step (unhide HWw) (unhide HB4)).trans (grown_below (grown_cells _ Z 0 zeroN.cs) (below_step (unhide HWw) (unhide HB4)).size (fun g hg => by injection hg with hg; have := unhide HZE; omega))⟩
    · have h9 : ¬ (k : Int) < (p.args.length : Int) := by omega
      obtain rfl : k = p.args.length := by omega
      rw [List.take_length] at HIN
      have HR : Hid (RR = chkOp ts p (insOf ys)) := by
        have hc := chkL_ok ts p.args fun i x hx => unhide HOK i x (List.getElem?_eq_some_iff.1 hx).1 hx
        show _ = _
        rw [unhide HRR, chkP_eq, hc, if_pos rfl, unhide HIN]
      have hks : ∀ y ∈ ys, KOk y.k.2.2 := by
        intro y hy
        have : y.k.2.2 ∈ insOf ys := List.mem_map.2 ⟨y, hy, rfl⟩
        rw [unhide HIN] at this
        obtain ⟨z, hz, e⟩ := List.mem_map.1 this
        obtain ⟨i, hi, rfl⟩ := List.mem_iff_getElem.1 hz
        rw [← e]
        exact unhide HAK i _ (List.getElem?_eq_getElem hi) (unhide HOK i _ hi (List.getElem?_eq_getElem hi))
      have HAG := hide (lk_chk (unhide HWL) (unhide HSD).1 (unhide HSD).2 (ins := insOf ys) (fun k hk => by
        obtain ⟨y, hy, rfl⟩ := List.mem_map.1 hk
        exact hks y hy) (by unfold insOf; rw [List.length_map, unhide HYL]))
      have HLK := hide (fun (t : Tb) (tm : Tm) (W : World) (hG : wa.grownBy W (some B)) (hN : Nod W B { nodA p m na p.args.length nc with t := t, tm := tm }) (hO : OwnN W wa.heap.size (.slice na p.args.length nc) ys) (hK : KS W wa.heap.size ys) (hT : ColsT w0 tm.aC t.cols) (htl : t.cols.length ≤ 1048576) => look_any B { nodA p m na p.args.length nc with t := t, tm := tm } ys (unhide HF) (sound_need (unhide HSD).1) (ex_le (unhide HSD).1) rfl (unhide HYL) hks w0 W (unhide HFR W hG).1 (by have := (unhide H0).size; have := unhide HBE; omega) hN (unhide HA).o hT htl (own_nodes hO hK) (fun g off e => by have q1 := ownN_ge hO e; have q2 := unhide HS3; omega) (fun y hy g off e => by have q1 := own_at_ge (hK y hy) e; have q2 := unhide HS3; omega))
      have c0 := (unhide HEw).c0
      clear HOK HIN HRR HIH HAK hk hlt h9 hks
      by_cases o1 : p.op = 1
      · have e1 : (p.op == 1) = true := by rw [o1]; rfl
        have c1 := (unhide HEw).c1
        simp only [Nat.zero_add] at c1
        have HIX := hide (index_named ts htl p.tab w.heap.size aT cT wr ((unhide HT).later (unhide HW0)) c1)
        go_upto_region 12 with (go_at_call 29; refine (unhide HIX).mono ?_; rintro r w5 ⟨n, rfl, hf5, hb5⟩)
        have HB5 := hide hb5
        have HG5 := hide (grown_trans (unhide HG) (grown_of_below (some B) hb5))
        rcases found_tab hf5 with ⟨kk, t, rfl, htk, hfind⟩ | ⟨rfl, hfind⟩
        · have hkl : kk < ts.length := (List.getElem?_eq_some_iff.1 htk).1
          have hkl2 : (kk : Int) < (ts.length : Int) := by omega
          obtain ⟨tb, toff, tm, eT, hT3, hTm⟩ := (unhide HT).get htk
          have HTC := hide hTm.c
          have HTF := hide (unhide HFT t (List.mem_of_getElem? htk)).c
          have HLT := hide (hT3.later (below_step (unhide HW0) (unhide HB5))).load
          rw [Tb.val_open] at HLT
          have hN5 := (unhide HND).later (unhide HB5)
          have HTR := hide (hN5.tabRun t tm)
          rw [Tb.val_open] at HTR
          have HN7 := hide (hN5.tab t tm)
          have hgt := grown_cells w5 B 11 [.string t.name, .slice tm.aC t.cols.length tm.cC, .slice tm.aR t.rows.length tm.cR]
          have HGx := hide (grown_trans (unhide HG5) hgt)
          have hBl : B < wa.heap.size := by have := unhide HS3; omega
          have HOx := hide (ownN_low ((unhide HON).later (unhide HB5)) hgt hBl)
          have HKx := hide (((unhide HKS).later (unhide HB5)).low hgt hBl)
          have eL : lkOp ts p (insOf ys) = (lookE p t (overK p.op (insOf ys)) (insOf ys), kindsK p t (overK p.op (insOf ys))) := by unfold lkOp; rw [o1, hfind]; rfl
          have HR1 : Hid (RR.1 = lookE p t (overK p.op (insOf ys)) (insOf ys)) := by show _ = _; rw [unhide HR, ← (unhide HAG).1, eL]
          have HRK : Hid (lookE p t (overK p.op (insOf ys)) (insOf ys) = 0 → RR = (0, kindsK p t (overK p.op (insOf ys)))) := by
            intro h
            have h1 := unhide HR1
            rw [h] at h1
            have h2 := (unhide HAG).2 (by rw [← unhide HR]; exact h1)
            rw [← unhide HR, eL] at h2
            exact Prod.ext h1 h2.symm
          have HLC := hide (unhide HLK t tm (w5.setCells B 11 [.string t.name, .slice tm.aC t.cols.length tm.cC, .slice tm.aR t.rows.length tm.cR]) (unhide HGx) (unhide HN7) (unhide HOx) (unhide HKx) (unhide HTC) (unhide HTF))
          change Hid (Calls _ _ _ _ (LoQ B _ (kindsK p t (overK p.op (insOf ys))) (lookE p t (overK p.op (insOf ys)) (insOf ys)) _)) at HLC
          obtain ⟨w5t, hw5t⟩ : ∃ w5t, w5t = w5.setCells B 11 [.string t.name, .slice tm.aC t.cols.length tm.cC, .slice tm.aR t.rows.length tm.cR] := ⟨_, rfl⟩
          rw [← hw5t] at HTR HN7 HGx HOx HKx HLC
          have HSZx : Hid (w.heap.size ≤ w5t.heap.size) := (unhide HFR w5t (unhide HGx)).2.1.size
          rw [eT]
          clear hf5 hb5 hfind o1 eL HR HAG HLK HND hN5 hgt hT3 hTm htk hkl eT hw5t
          go_upto_region 15 with (first
            | (refine wpList_load_w ?_ 45 (.tmp 52) rfl _ (by simp [Act.eval]) _ (unhide HLT) ?_; · simp [Region.wanted, yielded])
            | (refine wpList_store_w rfl 45 (.tmp 54) (.tmp 53) rfl _ _ (by first | rfl | simp [Act.eval, Act.put]) (by first | rfl | simp [Act.eval, Act.put]) (unhide HTR) ?_))
          generalize hE : lookE p t (overK p.op (insOf ys)) (insOf ys) = er at *
          generalize hKK : kindsK p t (overK p.op (insOf ys)) = KK at *
          clear hE hKK
          by_cases hz : er = 0
          · subst hz
            have HRZ : Hid (RR = (0, KK)) := unhide HRK rfl
            go_wp2_with (first
              | (go_at_call 31; refine (unhide HLC).mono ?_; rintro r w6 ⟨rfl, hg6, hok6⟩; obtain ⟨aK, cK, hN6, hK6⟩ := hok6 rfl; obtain ⟨X, hXe⟩ : ∃ X : Nv, X = { ({ nodA p m na p.args.length nc with t := t, tm := tm } : Nv) with k := (aK, cK, KK) } := ⟨_, rfl⟩; rw [← hXe] at hN6; have HXK : Hid (X.k = (aK, cK, KK)) := (by rw [hXe]; rfl); have HLD6 := hide hN6.s.load; have hZ6 := (unhide HFR w6 (grown_trans (unhide HGx) hg6)).2.2.2; have HZR := hide (hZ6.storeRun X); have HZ7 := hide (hZ6.store X); have HB6 := hide (unhide HFR w6 (grown_trans (unhide HGx) hg6)).2.1; have HK6 := hide hK6; clear hok6 hN6 hK6 hZ6 hXe)
              | (refine wpList_load_w ?_ 51 (.tmp 6) rfl _ (by simp [Act.eval]) _ (unhide HLD6) ?_; · simp [Region.wanted, yielded])
              | (refine wpList_store_w rfl 51 (.tmp 4) (.tmp 60) rfl _ _ (by first | rfl | simp [Act.eval, Act.put]) (by first | rfl | simp [Act.eval, Act.put]) (unhide HZR) ?_))
            have HRV := hide (unhide HZ7).s.var
            refine bodyPost_ret (v := .tuple #[X.v, .int .i64 0]) (res16 (unhide HRV) (by rfl) (by rfl)) rfl ?_
            rw [unhide HRZ]
            refine ⟨X, rfl, ?_, (unhide HB6).trans (grown_below (grown_cells _ Z 0 _) (unhide HB6).size (fun g hg => by injection hg with hg; have := unhide HZE; omega))⟩
            intro _
            rw [unhide HXK]
            refine ⟨rfl, ?_⟩
            refine OwnI.base_le (World.ownsRow.kept (unhide HK6) (grown_cells _ Z 0 _) ?_) (unhide HSZx)
            cases hq : (Value.slice aK KK.length cK).ownBlock with
            | none => exact .inl rfl
            | some g => refine .inr fun e => ?_
                        injection e with e
                        have q1 := (World.ownsRow.lt (unhide HK6) g hq).1
                        have q2 := unhide HZE
                        have q3 := unhide HS3
                        have q4 := unhide HBE
                        have q5 := (unhide HGx).size
                        omega
          · have HRZ : Hid (RR.1 = er) := unhide HR1
            have bz : (er != 0) = true := by simpa using hz
            go_wp2_with (first
              | (go_at_call 31; refine (unhide HLC).mono ?_; rintro r w6 ⟨rfl, hg6, hok6⟩; have hZ6 := (unhide HFR w6 (grown_trans (unhide HGx) hg6)).2.2.2; have HZR := hide (hZ6.storeRun zeroN); rw [zeroN_v] at HZR; have HZ7 := hide (hZ6.store zeroN); have HB6 := hide (unhide HFR w6 (grown_trans (unhide HGx) hg6)).2.1; clear hok6 hZ6)
              | (refine wpList_store_w rfl 51 (.tmp 4) (.tmp 58) rfl _ _ (by first | rfl | simp [Act.eval, Act.put]) (by first | rfl | simp [Act.eval, Act.put]) (unhide HZR) ?_))
            have HRV := hide (unhide HZ7).s.var
            refine bodyPost_ret (v := .tuple #[zeroN.v, .int .i64 er]) (res16 (unhide HRV) (by rfl) (by rfl)) rfl ?_
            exact ⟨zeroN, by rw [unhide HRZ], fun e => absurd (by rw [← unhide HRZ]; exact e) hz, (unhide HB6).trans (grown_below (grown_cells _ Z 0 _) (unhide HB6).size (fun g hg => by injection hg with hg; have := unhide HZE; omega))⟩
        · have HRZ : Hid (RR = (8, [])) := by show _ = _; rw [unhide HR]; unfold chkOp tabE; rw [o1, hfind]; rfl
          have hZ6 := (unhide HFR w5 (unhide HG5)).2.2.2
          have HZR := hide (hZ6.storeRun zeroN)
          rw [zeroN_v] at HZR
          have HZ7 := hide (hZ6.store zeroN)
          have HB6 := hide (unhide HFR w5 (unhide HG5)).2.1
          clear hf5 hb5 hfind o1 HR HAG HLK hZ6
          go_wp2_with (refine wpList_store_w rfl 51 (.tmp 4) (.tmp 49) rfl _ _ (by first | rfl | simp [Act.eval, Act.put]) (by first | rfl | simp [Act.eval, Act.put]) (unhide HZR) ?_)
          have HRV := hide (unhide HZ7).s.var
          refine bodyPost_ret (v := .tuple #[zeroN.v, .int .i64 8]) (res16 (unhide HRV) (by rfl) (by rfl)) rfl ?_
          rw [unhide HRZ]
          exact ⟨zeroN, rfl, (fun e => by cases e), (unhide HB6).trans (grown_below (grown_cells _ Z 0 _) (unhide HB6).size (fun g hg => by injection hg with hg; have := unhide HZE; omega))⟩
      · have e1 : (p.op == 1) = false := by simpa using o1
        have eL : lkOp ts p (insOf ys) = (lookE p zeroN.t (overK p.op (insOf ys)) (insOf ys), kindsK p zeroN.t (overK p.op (insOf ys))) := by unfold lkOp; rw [e1]; rfl
        have HR1 : Hid (RR.1 = lookE p zeroN.t (overK p.op (insOf ys)) (insOf ys)) := by show _ = _; rw [unhide HR, ← (unhide HAG).1, eL]
        have HRK : Hid (lookE p zeroN.t (overK p.op (insOf ys)) (insOf ys) = 0 → RR = (0, kindsK p zeroN.t (overK p.op (insOf ys)))) := by
          intro h
          have h1 := unhide HR1
          rw [h] at h1
          have h2 := (unhide HAG).2 (by rw [← unhide HR]; exact h1)
          rw [← unhide HR, eL] at h2
          exact Prod.ext h1 h2.symm
        have HLC := hide (unhide HLK zeroN.t zeroN.tm wr (unhide HG) (unhide HND) (unhide HON) (unhide HKS) (.inl rfl) (by simp [zeroN]))
        change Hid (Calls _ _ _ _ (LoQ B _ (kindsK p zeroN.t (overK p.op (insOf ys))) (lookE p zeroN.t (overK p.op (insOf ys)) (insOf ys)) wr)) at HLC
        have HGx := HG
        have HSZx : Hid (w.heap.size ≤ wr.heap.size) := (unhide HWw).size
        clear o1 eL HR HAG HLK HND
        generalize hE : lookE p zeroN.t (overK p.op (insOf ys)) (insOf ys) = er at *
        generalize hKK : kindsK p zeroN.t (overK p.op (insOf ys)) = KK at *
        clear hE hKK
        by_cases hz : er = 0
        · subst hz
          have HRZ : Hid (RR = (0, KK)) := unhide HRK rfl
          go_wp2_with (first
            | (go_at_call 31; refine (unhide HLC).mono ?_; rintro r w6 ⟨rfl, hg6, hok6⟩; obtain ⟨aK, cK, hN6, hK6⟩ := hok6 rfl; obtain ⟨X, hXe⟩ : ∃ X : Nv, X = { ({ nodA p m na p.args.length nc with t := zeroN.t, tm := zeroN.tm } : Nv) with k := (aK, cK, KK) } := ⟨_, rfl⟩; rw [← hXe] at hN6; have HXK : Hid (X.k = (aK, cK, KK)) := (by rw [hXe]; rfl); have HLD6 := hide hN6.s.load; have hZ6 := (unhide HFR w6 (grown_trans (unhide HGx) hg6)).2.2.2; have HZR := hide (hZ6.storeRun X); have HZ7 := hide (hZ6.store X); have HB6 := hide (unhide HFR w6 (grown_trans (unhide HGx) hg6)).2.1; have HK6 := hide hK6; clear hok6 hN6 hK6 hZ6 hXe)
            | (refine wpList_load_w ?_ 51 (.tmp 6) rfl _ (by simp [Act.eval]) _ (unhide HLD6) ?_; · simp [Region.wanted, yielded])
            | (refine wpList_store_w rfl 51 (.tmp 4) (.tmp 60) rfl _ _ (by first | rfl | simp [Act.eval, Act.put]) (by first | rfl | simp [Act.eval, Act.put]) (unhide HZR) ?_))
          have HRV := hide (unhide HZ7).s.var
          refine bodyPost_ret (v := .tuple #[X.v, .int .i64 0]) (res16 (unhide HRV) (by rfl) (by rfl)) rfl ?_
          rw [unhide HRZ]
          refine ⟨X, rfl, ?_, (unhide HB6).trans (grown_below (grown_cells _ Z 0 _) (unhide HB6).size (fun g hg => by injection hg with hg; have := unhide HZE; omega))⟩
          intro _
          rw [unhide HXK]
          refine ⟨rfl, ?_⟩
          refine OwnI.base_le (World.ownsRow.kept (unhide HK6) (grown_cells _ Z 0 _) ?_) (unhide HSZx)
          cases hq : (Value.slice aK KK.length cK).ownBlock with
          | none => exact .inl rfl
          | some g => refine .inr fun e => ?_
                      injection e with e
                      have q1 := (World.ownsRow.lt (unhide HK6) g hq).1
                      have q2 := unhide HZE
                      have q3 := unhide HS3
                      have q4 := unhide HBE
                      have q5 := (unhide HGx).size
                      omega
        · have HRZ : Hid (RR.1 = er) := unhide HR1
          have bz : (er != 0) = true := by simpa using hz
          go_wp2_with (first
            | (go_at_call 31; refine (unhide HLC).mono ?_; rintro r w6 ⟨rfl, hg6, hok6⟩; have hZ6 := (unhide HFR w6 (grown_trans (unhide HGx) hg6)).2.2.2; have HZR := hide (hZ6.storeRun zeroN); rw [zeroN_v] at HZR; have HZ7 := hide (hZ6.store zeroN); have HB6 := hide (unhide HFR w6 (grown_trans (unhide HGx) hg6)).2.1; clear hok6 hZ6)
            | (refine wpList_store_w rfl 51 (.tmp 4) (.tmp 58) rfl _ _ (by first | rfl | simp [Act.eval, Act.put]) (by first | rfl | simp [Act.eval, Act.put]) (unhide HZR) ?_))
          have HRV := hide (unhide HZ7).s.var
          refine bodyPost_ret (v := .tuple #[zeroN.v, .int .i64 er]) (res16 (unhide HRV) (by rfl) (by rfl)) rfl ?_
          exact ⟨zeroN, by rw [unhide HRZ], fun e => absurd (by rw [← unhide HRZ]; exact e) hz, (unhide HB6).trans (grown_below (grown_cells _ Z 0 _) (unhide HB6).size (fun g hg => by injection hg with hg; have := unhide HZE; omega))⟩
theorem looked_all (ts : List Tb) (hw : wellB ts = true) (hft : ∀ t ∈ ts, t.fin) (htl : ts.length ≤ 1048576) (aT : Option Addr) (cT : Nat) (w0 : World) (hT : Tbs w0 aT ts) : ∀ (k : Nat) (p : Pl), p.size ≤ k → p.fin → bltP p = true → ∀ (m : Pm) (w : World), PlM w0 p m → Below w0.heap.size w0 w → Calls Tryz.prog 16 #[p.val m, .slice aT ts.length cT] w (LdQ (chkP ts p) w)
  | 0, p, hs, _, _, _, _, _, _ => by rw [Pl.size_mk] at hs; omega
  | k + 1, p, hs, hf, hb, m, w, ha, h0 => looked_step ts hw hft htl aT cT p hf hb m w0 w h0 ha hT fun i x hx m' W hm hW => looked_all ts hw hft htl aT cT w0 hT k x (by have := Pl.size_arg hx; omega) (Pl.fin_arg hf hx) (by
      rw [bltP_eq] at hb
      simp only [Bool.and_eq_true, Bool.not_eq_true'] at hb
      have := any_out hb.2 (List.mem_of_getElem? hx)
      simpa using this) m' W hm hW
/-- looked (16). -/
theorem looked_any (ts : List Tb) (hw : wellB ts = true) (hft : ∀ t ∈ ts, t.fin) (htl : ts.length ≤ 1048576) (aT : Option Addr) (cT : Nat) (p : Pl) (hf : p.fin) (hb : bltP p = true) (m : Pm) (w : World) (ha : PlM w p m) (hT : Tbs w aT ts) : Calls Tryz.prog 16 #[p.val m, .slice aT ts.length cT] w (LdQ (chkP ts p) w) :=
  looked_all ts hw hft htl aT cT w hT p.size p (Nat.le_refl _) hf hb m w ha (Below.refl _ _)
end Go.Proofs.YtcpndojkfngioaaGreat
