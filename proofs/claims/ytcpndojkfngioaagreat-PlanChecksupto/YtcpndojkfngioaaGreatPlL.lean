import Derived.Test.YtcpndojkfngioaaGreatPlK
set_option linter.unusedSimpArgs false
set_option linter.unusedVariables false
namespace Go.Proofs.YtcpndojkfngioaaGreat
open Go.RowKit Go.Sort

/-- What the operator needs, beside Args. -/
def needsB (p : Pl) : Bool :=
  if p.op == 1 then nameB p.tab else if p.op == 2 || p.op == 4 || p.op == 5 then p.ex.length == 1 else if p.op == 3 then decide (1 ≤ p.ex.length) && decide (p.ex.length ≤ 32)
  else if p.op == 6 then decide (1 ≤ p.cols.length + p.aggs.length) && colsB p.cols && !p.aggs.any noAgg else if p.op == 7 || p.op == 8 || p.op == 11 then true
  else if p.op == 9 then colsB (p.keys.map Prod.fst) && decide (0 ≤ p.n) && decide (0 ≤ p.off) else if p.op == 10 then colsB p.cols && colsB (p.keys.map Prod.fst) && winB p.fn p.col p.n
  else if p.op == 12 then kindsB p.cols else false
theorem aggload {w : World} {b o : Nat} {f c : Int} (h0 : w.cell? ⟨b, o, none⟩ = some (.int .i64 f)) (h1 : w.cell? ⟨b, o + 1, none⟩ = some (.int .i64 c)) : (Instr.loadAt 100 (.pointer (some ⟨b, o, none⟩))).run Tryz.prog w = .ok (.agg #[.int .i64 f, .int .i64 c]) w := by
  go_simp
theorem lstA {w : World} {a : Option Addr} {xs : List (Int × Int)} (h : AggsAt w a xs) : LstA w a (xs.map fun x => .agg #[.int .i64 x.1, .int .i64 x.2]) := by
  rcases h with h | ⟨b, off, ha, h⟩
  · exact .inl (by rw [h]; rfl)
  · refine .inr ⟨b, off, ha, fun i v hv W hW => ?_⟩
    rw [List.getElem?_map] at hv
    obtain ⟨x, hx, rfl⟩ := Option.map_eq_some_iff.1 hv
    exact aggload (clater (h i x hx).1 hW) (clater (h i x hx).2 hW)
/-- ContainsFunc of aggregates, by isNoAgg. -/
theorem containsA_no (xs : List (Int × Int)) (a : Option Addr) (c : Nat) (w : World) (hl : xs.length ≤ 140737488355328) (ha : AggsAt w a xs) :
    Calls Tryz.prog 91 #[.slice a xs.length c, .func (.func 103) #[] #[]] w fun r w' => r = .returned (.bool (xs.any noAgg)) ∧ Below w.heap.size w w' := by
  have h := containsA (xs.map fun x => .agg #[.int .i64 x.1, .int .i64 x.2]) (xs.map noAgg) (by simp) a c (.func (.func 103) #[] #[]) w (by simpa using hl) (lstA ha) ⟨103, #[], rfl, fun args w => by kernel_rfl, fun i v bb W hv hb _ => by
    rw [List.getElem?_map] at hv hb
    obtain ⟨x, hx, rfl⟩ := Option.map_eq_some_iff.1 hv
    rw [hx] at hb
    injection hb with hb
    subst hb
    exact noAgg_any x.1 x.2 W⟩
  rw [List.length_map, List.any_map] at h
  exact h
set_option maxHeartbeats 4000000 in
set_option maxRecDepth 100000 in
/-- hasItsNeeds (72). -/
theorem itsNeeds_any (p : Pl) (hf : p.fin) (m : Pm) (w : World) (ho : Own4 w p m) : Calls Tryz.prog 72 #[p.val m] w fun r w' => r = .returned (.bool (needsB p)) ∧ Below w.heap.size w w' := by
  obtain ⟨⟨f1, f2, f3, f4, f5, f6, f7, fc, fk, fa⟩, _, _⟩ := Pl.fin_open hf
  obtain ⟨R, hR⟩ : ∃ R, R = needsB p := ⟨_, rfl⟩
  rw [← hR]
  unfold needsB at hR
  rw [Pl.val_open]
  by_cases h1 : p.op = 1
  · rw [h1] at hR
    have HR : Hid (R = nameB p.tab) := hR
    have HN := hide (isname_any p.tab (by omega))
    rw [h1]
    have hb0 := below_alloc (Below.refl _ w) (.cells #[.int .i64 1, .string p.tab, .slice m.aE p.ex.length m.cE, .slice m.aC p.cols.length m.cC, .slice m.aK p.keys.length m.cK, .slice m.aA p.aggs.length m.cA, .int .i64 p.fn, .int .i64 p.col, .int .i64 p.n, .int .i64 p.off, .slice m.aP p.args.length m.cP] 28)
    have HB := hide hb0
    clear hR hb0 ho hf
    generalize nameB p.tab = nb at *
    obtain rfl := unhide HR
    go_enter Tryz.func72, Tryz.ntmps72
    go_wp2_with (go_at_call 80; refine (unhide HN _).mono ?_; rintro r w1 ⟨rfl, hb1⟩)
    go_ret
    exact ⟨rfl, below_step (unhide HB) hb1⟩
  by_cases h2 : p.op = 2
  · rw [h2] at hR
    have HR : Hid (R = ((p.ex.length : Int) == 1)) := by rw [hR]; exact (natbeq _ 1).symm
    rw [h2]
    have hb0 := below_alloc (Below.refl _ w) (.cells #[.int .i64 2, .string p.tab, .slice m.aE p.ex.length m.cE, .slice m.aC p.cols.length m.cC, .slice m.aK p.keys.length m.cK, .slice m.aA p.aggs.length m.cA, .int .i64 p.fn, .int .i64 p.col, .int .i64 p.n, .int .i64 p.off, .slice m.aP p.args.length m.cP] 28)
    have HB := hide hb0
    clear hR hb0 ho hf
    obtain rfl := unhide HR
    go_enter Tryz.func72, Tryz.ntmps72
    go_wp2
    go_ret
    exact ⟨rfl, unhide HB⟩
  by_cases h4 : p.op = 4
  · rw [h4] at hR
    have HR : Hid (R = ((p.ex.length : Int) == 1)) := by rw [hR]; exact (natbeq _ 1).symm
    rw [h4]
    have hb0 := below_alloc (Below.refl _ w) (.cells #[.int .i64 4, .string p.tab, .slice m.aE p.ex.length m.cE, .slice m.aC p.cols.length m.cC, .slice m.aK p.keys.length m.cK, .slice m.aA p.aggs.length m.cA, .int .i64 p.fn, .int .i64 p.col, .int .i64 p.n, .int .i64 p.off, .slice m.aP p.args.length m.cP] 28)
    have HB := hide hb0
    clear hR hb0 ho hf
    obtain rfl := unhide HR
    go_enter Tryz.func72, Tryz.ntmps72
    go_wp2
    go_ret
    exact ⟨rfl, unhide HB⟩
  by_cases h5 : p.op = 5
  · rw [h5] at hR
    have HR : Hid (R = ((p.ex.length : Int) == 1)) := by rw [hR]; exact (natbeq _ 1).symm
    rw [h5]
    have hb0 := below_alloc (Below.refl _ w) (.cells #[.int .i64 5, .string p.tab, .slice m.aE p.ex.length m.cE, .slice m.aC p.cols.length m.cC, .slice m.aK p.keys.length m.cK, .slice m.aA p.aggs.length m.cA, .int .i64 p.fn, .int .i64 p.col, .int .i64 p.n, .int .i64 p.off, .slice m.aP p.args.length m.cP] 28)
    have HB := hide hb0
    clear hR hb0 ho hf
    obtain rfl := unhide HR
    go_enter Tryz.func72, Tryz.ntmps72
    go_wp2
    go_ret
    exact ⟨rfl, unhide HB⟩
  by_cases h3 : p.op = 3
  · rw [h3] at hR
    have HR : Hid (R = (decide (1 ≤ p.ex.length) && decide (p.ex.length ≤ 32))) := hR
    rw [h3]
    have hb0 := below_alloc (Below.refl _ w) (.cells #[.int .i64 3, .string p.tab, .slice m.aE p.ex.length m.cE, .slice m.aC p.cols.length m.cC, .slice m.aK p.keys.length m.cK, .slice m.aA p.aggs.length m.cA, .int .i64 p.fn, .int .i64 p.col, .int .i64 p.n, .int .i64 p.off, .slice m.aP p.args.length m.cP] 28)
    have HB := hide hb0
    clear hR hb0 ho hf
    by_cases g1 : 1 ≤ p.ex.length
    · have i1 : (1 : Int) ≤ (p.ex.length : Int) := by omega
      have HZ : Hid (R = decide ((p.ex.length : Int) ≤ 32)) := by rw [unhide HR, decide_eq_true g1, Bool.true_and]; show _ = _; rw [Bool.eq_iff_iff]; simp; omega
      obtain rfl := unhide HZ
      go_enter Tryz.func72, Tryz.ntmps72
      go_wp2
      go_ret
      exact ⟨rfl, unhide HB⟩
    · have i1 : ¬ (1 : Int) ≤ (p.ex.length : Int) := by omega
      have HZ : Hid (R = false) := by rw [unhide HR, decide_eq_false g1]; rfl
      obtain rfl := unhide HZ
      go_enter Tryz.func72, Tryz.ntmps72
      go_wp2
      go_ret
      exact ⟨rfl, unhide HB⟩
  by_cases h6 : p.op = 6
  · rw [h6] at hR
    have HR : Hid (R = (decide (1 ≤ p.cols.length + p.aggs.length) && colsB p.cols && !p.aggs.any noAgg)) := hR
    rw [h6]
    have hb0 := below_alloc (Below.refl _ w) (.cells #[.int .i64 6, .string p.tab, .slice m.aE p.ex.length m.cE, .slice m.aC p.cols.length m.cC, .slice m.aK p.keys.length m.cK, .slice m.aA p.aggs.length m.cA, .int .i64 p.fn, .int .i64 p.col, .int .i64 p.n, .int .i64 p.off, .slice m.aP p.args.length m.cP] 28)
    have HB := hide hb0
    have HE := hide (Elv.new w p m)
    have HC := hide (areCols_any p.cols m.aC m.cC _ (by omega) fc (ho.c.later hb0))
    have HAG := hide (fun (W : World) (hW : Below w.heap.size w W) => containsA_no p.aggs m.aA m.cA W (by omega) (ho.a.later hW))
    unfold Pl.box at HE
    rw [h6] at HE
    clear hR hb0 ho hf
    by_cases g1 : 1 ≤ p.cols.length + p.aggs.length
    · have i1 : (1 : Int) ≤ (p.cols.length : Int) + (p.aggs.length : Int) := by omega
      rw [decide_eq_true g1, Bool.true_and] at HR
      generalize p.aggs.any noAgg = ag at *
      cases hc : colsB p.cols
      · rw [hc] at HR HC
        obtain rfl : R = false := unhide HR
        clear hc HE
        go_enter Tryz.func72, Tryz.ntmps72
        go_wp2_with (go_at_call 102; refine (unhide HC).mono ?_; rintro r w1 ⟨rfl, hb1⟩)
        go_ret
        exact ⟨rfl, below_step (unhide HB) hb1⟩
      · rw [hc] at HR HC
        obtain rfl : R = !ag := unhide HR
        clear hc
        go_enter Tryz.func72, Tryz.ntmps72
        go_wp2_with (first
          | (go_at_call 102; refine (unhide HC).mono ?_; rintro r w1 ⟨rfl, hb1⟩; have c5 := ((unhide HE).later hb1).c5; simp only [Nat.zero_add] at c5)
          | (go_at_call 91; refine (unhide HAG _ (below_step (unhide HB) hb1)).mono ?_; rintro r w2 ⟨rfl, hb2⟩))
        go_ret
        exact ⟨rfl, below_step (below_step (unhide HB) hb1) hb2⟩
    · have i1 : ¬ (1 : Int) ≤ (p.cols.length : Int) + (p.aggs.length : Int) := by omega
      obtain rfl : R = false := by rw [unhide HR, decide_eq_false g1]; rfl
      go_enter Tryz.func72, Tryz.ntmps72
      go_wp2
      go_ret
      exact ⟨rfl, unhide HB⟩
  by_cases h7 : p.op = 7
  · rw [h7] at hR
    obtain rfl : R = true := hR
    rw [h7]
    have hb0 := below_alloc (Below.refl _ w) (.cells #[.int .i64 7, .string p.tab, .slice m.aE p.ex.length m.cE, .slice m.aC p.cols.length m.cC, .slice m.aK p.keys.length m.cK, .slice m.aA p.aggs.length m.cA, .int .i64 p.fn, .int .i64 p.col, .int .i64 p.n, .int .i64 p.off, .slice m.aP p.args.length m.cP] 28)
    have HB := hide hb0
    clear hb0 ho hf
    go_enter Tryz.func72, Tryz.ntmps72
    go_wp2
    go_ret
    exact ⟨rfl, unhide HB⟩
  by_cases h8 : p.op = 8
  · rw [h8] at hR
    obtain rfl : R = true := hR
    rw [h8]
    have hb0 := below_alloc (Below.refl _ w) (.cells #[.int .i64 8, .string p.tab, .slice m.aE p.ex.length m.cE, .slice m.aC p.cols.length m.cC, .slice m.aK p.keys.length m.cK, .slice m.aA p.aggs.length m.cA, .int .i64 p.fn, .int .i64 p.col, .int .i64 p.n, .int .i64 p.off, .slice m.aP p.args.length m.cP] 28)
    have HB := hide hb0
    clear hb0 ho hf
    go_enter Tryz.func72, Tryz.ntmps72
    go_wp2
    go_ret
    exact ⟨rfl, unhide HB⟩
  by_cases h11 : p.op = 11
  · rw [h11] at hR
    obtain rfl : R = true := hR
    rw [h11]
    have hb0 := below_alloc (Below.refl _ w) (.cells #[.int .i64 11, .string p.tab, .slice m.aE p.ex.length m.cE, .slice m.aC p.cols.length m.cC, .slice m.aK p.keys.length m.cK, .slice m.aA p.aggs.length m.cA, .int .i64 p.fn, .int .i64 p.col, .int .i64 p.n, .int .i64 p.off, .slice m.aP p.args.length m.cP] 28)
    have HB := hide hb0
    clear hb0 ho hf
    go_enter Tryz.func72, Tryz.ntmps72
    go_wp2
    go_ret
    exact ⟨rfl, unhide HB⟩
  by_cases h9 : p.op = 9
  · rw [h9] at hR
    have HR : Hid (R = (colsB (p.keys.map Prod.fst) && decide (0 ≤ p.n) && decide (0 ≤ p.off))) := hR
    rw [h9]
    have hb0 := below_alloc (Below.refl _ w) (.cells #[.int .i64 9, .string p.tab, .slice m.aE p.ex.length m.cE, .slice m.aC p.cols.length m.cC, .slice m.aK p.keys.length m.cK, .slice m.aA p.aggs.length m.cA, .int .i64 p.fn, .int .i64 p.col, .int .i64 p.n, .int .i64 p.off, .slice m.aP p.args.length m.cP] 28)
    have HB := hide hb0
    have HE := hide (Elv.new w p m)
    have HK := hide (columnsOf_any p.keys m.aK m.cK _ f4 (ho.k.later hb0))
    have HKI : Hid (∀ x ∈ p.keys.map Prod.fst, In64 x) := fun x hx => by obtain ⟨y, hy, rfl⟩ := List.mem_map.1 hx; exact fk y hy
    have HKL : Hid ((p.keys.map Prod.fst).length ≤ 140737488355328) := by show _ ≤ _; rw [List.length_map]; omega
    unfold Pl.box at HE
    rw [h9] at HE
    clear hR hb0 ho hf
    generalize p.keys.map Prod.fst = kc at *
    cases hc : colsB kc
    · rw [hc] at HR
      obtain rfl : R = false := unhide HR
      go_enter Tryz.func72, Tryz.ntmps72
      go_wp2_with (first
        | (go_at_call 84; refine (unhide HK).mono ?_; rintro r w1 ⟨a1, c1, rfl, hO1, hb1⟩; have HC := hide (areCols_any kc a1 c1 w1 (unhide HKL) (unhide HKI) hO1.ints); rw [hc] at HC)
        | (go_at_call 102; refine (unhide HC).mono ?_; rintro r w2 ⟨rfl, hb2⟩))
      go_ret
      exact ⟨rfl, below_step (below_step (unhide HB) hb1) hb2⟩
    · rw [hc, Bool.true_and] at HR
      by_cases g1 : 0 ≤ p.n
      · rw [decide_eq_true g1, Bool.true_and] at HR
        obtain rfl := unhide HR
        go_enter Tryz.func72, Tryz.ntmps72
        go_wp2_with (first
          | (go_at_call 84; refine (unhide HK).mono ?_; rintro r w1 ⟨a1, c1, rfl, hO1, hb1⟩; have HC := hide (areCols_any kc a1 c1 w1 (unhide HKL) (unhide HKI) hO1.ints); rw [hc] at HC)
          | (go_at_call 102; refine (unhide HC).mono ?_; rintro r w2 ⟨rfl, hb2⟩; have hEl := (unhide HE).later (below_step hb1 hb2); have c8 := hEl.c8; have c9 := hEl.c9; simp only [Nat.zero_add] at c8 c9; clear hEl))
        go_ret
        exact ⟨rfl, below_step (below_step (unhide HB) hb1) hb2⟩
      · rw [decide_eq_false g1] at HR
        obtain rfl : R = false := unhide HR
        go_enter Tryz.func72, Tryz.ntmps72
        go_wp2_with (first
          | (go_at_call 84; refine (unhide HK).mono ?_; rintro r w1 ⟨a1, c1, rfl, hO1, hb1⟩; have HC := hide (areCols_any kc a1 c1 w1 (unhide HKL) (unhide HKI) hO1.ints); rw [hc] at HC)
          | (go_at_call 102; refine (unhide HC).mono ?_; rintro r w2 ⟨rfl, hb2⟩; have hEl := (unhide HE).later (below_step hb1 hb2); have c8 := hEl.c8; have c9 := hEl.c9; simp only [Nat.zero_add] at c8 c9; clear hEl))
        go_ret
        exact ⟨rfl, below_step (below_step (unhide HB) hb1) hb2⟩
  by_cases h10 : p.op = 10
  · rw [h10] at hR
    have HR : Hid (R = (colsB p.cols && colsB (p.keys.map Prod.fst) && winB p.fn p.col p.n)) := hR
    rw [h10]
    have hb0 := below_alloc (Below.refl _ w) (.cells #[.int .i64 10, .string p.tab, .slice m.aE p.ex.length m.cE, .slice m.aC p.cols.length m.cC, .slice m.aK p.keys.length m.cK, .slice m.aA p.aggs.length m.cA, .int .i64 p.fn, .int .i64 p.col, .int .i64 p.n, .int .i64 p.off, .slice m.aP p.args.length m.cP] 28)
    have HB := hide hb0
    have HE := hide (Elv.new w p m)
    have HC0 := hide (areCols_any p.cols m.aC m.cC _ (by omega) fc (ho.c.later hb0))
    have HK := hide (fun (W : World) (hW : Below w.heap.size w W) => columnsOf_any p.keys m.aK m.cK W f4 (ho.k.later hW))
    have HKI : Hid (∀ x ∈ p.keys.map Prod.fst, In64 x) := fun x hx => by obtain ⟨y, hy, rfl⟩ := List.mem_map.1 hx; exact fk y hy
    have HKL : Hid ((p.keys.map Prod.fst).length ≤ 140737488355328) := by show _ ≤ _; rw [List.length_map]; omega
    have HW := hide (isWin_any p.fn p.col p.n)
    unfold Pl.box at HE
    rw [h10] at HE
    clear hR hb0 ho hf
    generalize p.keys.map Prod.fst = kc at *
    generalize winB p.fn p.col p.n = wb at *
    cases hc : colsB p.cols
    · rw [hc] at HR HC0
      obtain rfl : R = false := unhide HR
      clear hc
      go_enter Tryz.func72, Tryz.ntmps72
      go_wp2_with (go_at_call 102; refine (unhide HC0).mono ?_; rintro r w1 ⟨rfl, hb1⟩)
      go_ret
      exact ⟨rfl, below_step (unhide HB) hb1⟩
    · rw [hc] at HR HC0
      clear hc
      have HR2 : Hid (R = (colsB kc && wb)) := by have := unhide HR; show _ = _; simpa using this
      cases hk : colsB kc
      · rw [hk] at HR2
        obtain rfl : R = false := unhide HR2
        go_enter Tryz.func72, Tryz.ntmps72
        go_wp2_with (first
          | (go_at_call 84; refine (unhide HK _ (below_step (unhide HB) hb1)).mono ?_; rintro r w2 ⟨a1, c1, rfl, hO1, hb2⟩; have HC := hide (areCols_any kc a1 c1 w2 (unhide HKL) (unhide HKI) hO1.ints); rw [hk] at HC)
          | (go_at_call 102; refine (unhide HC).mono ?_; rintro r w3 ⟨rfl, hb3⟩)
          | (go_at_call 102; refine (unhide HC0).mono ?_; rintro r w1 ⟨rfl, hb1⟩; have c4 := ((unhide HE).later hb1).c4; simp only [Nat.zero_add] at c4))
        go_ret
        exact ⟨rfl, below_step (below_step (below_step (unhide HB) hb1) hb2) hb3⟩
      · rw [hk] at HR2
        obtain rfl : R = wb := unhide HR2
        go_enter Tryz.func72, Tryz.ntmps72
        go_wp2_with (first
          | (go_at_call 84; refine (unhide HK _ (below_step (unhide HB) hb1)).mono ?_; rintro r w2 ⟨a1, c1, rfl, hO1, hb2⟩; have HC := hide (areCols_any kc a1 c1 w2 (unhide HKL) (unhide HKI) hO1.ints); rw [hk] at HC)
          | (go_at_call 102; refine (unhide HC).mono ?_; rintro r w3 ⟨rfl, hb3⟩; have hEl := (unhide HE).later (below_step (below_step hb1 hb2) hb3); have c6 := hEl.c6; have c7 := hEl.c7; have c8 := hEl.c8; simp only [Nat.zero_add] at c6 c7 c8; clear hEl)
          | (go_at_call 102; refine (unhide HC0).mono ?_; rintro r w1 ⟨rfl, hb1⟩; have c4 := ((unhide HE).later hb1).c4; simp only [Nat.zero_add] at c4)
          | (go_at_call 104; refine (unhide HW _).mono ?_; rintro r w4 ⟨rfl, hb4⟩))
        go_ret
        exact ⟨rfl, below_step (below_step (below_step (below_step (unhide HB) hb1) hb2) hb3) hb4⟩
  by_cases h12 : p.op = 12
  · rw [h12] at hR
    have HR : Hid (R = (decide (1 ≤ p.cols.length) && decide (p.cols.length ≤ 32) && !p.cols.any noKP)) := hR
    rw [h12]
    have hb0 := below_alloc (Below.refl _ w) (.cells #[.int .i64 12, .string p.tab, .slice m.aE p.ex.length m.cE, .slice m.aC p.cols.length m.cC, .slice m.aK p.keys.length m.cK, .slice m.aA p.aggs.length m.cA, .int .i64 p.fn, .int .i64 p.col, .int .i64 p.n, .int .i64 p.off, .slice m.aP p.args.length m.cP] 28)
    have HB := hide hb0
    have HC := hide (containsI_by p.cols noKP 57 (fun args w => by kernel_rfl) noKindP_any m.aC m.cC _ (by omega) (ho.c.later hb0))
    clear hR hb0 ho hf
    generalize p.cols.any noKP = ag at *
    by_cases g1 : 1 ≤ p.cols.length
    · have i1 : (1 : Int) ≤ (p.cols.length : Int) := by omega
      rw [decide_eq_true g1, Bool.true_and] at HR
      by_cases g2 : p.cols.length ≤ 32
      · have i2 : (p.cols.length : Int) ≤ 32 := by omega
        rw [decide_eq_true g2, Bool.true_and] at HR
        obtain rfl := unhide HR
        go_enter Tryz.func72, Tryz.ntmps72
        go_wp2_with (go_at_call 62; refine (unhide HC).mono ?_; rintro r w1 ⟨rfl, hb1⟩)
        go_ret
        exact ⟨rfl, below_step (unhide HB) hb1⟩
      · have i2 : ¬ (p.cols.length : Int) ≤ 32 := by omega
        rw [decide_eq_false g2] at HR
        obtain rfl : R = false := unhide HR
        go_enter Tryz.func72, Tryz.ntmps72
        go_wp2
        go_ret
        exact ⟨rfl, unhide HB⟩
    · have i1 : ¬ (1 : Int) ≤ (p.cols.length : Int) := by omega
      rw [decide_eq_false g1] at HR
      obtain rfl : R = false := unhide HR
      go_enter Tryz.func72, Tryz.ntmps72
      go_wp2
      go_ret
      exact ⟨rfl, unhide HB⟩
  · have e1 : (p.op == 1) = false := by simpa using h1
    have e2 : (p.op == 2) = false := by simpa using h2
    have e3 : (p.op == 3) = false := by simpa using h3
    have e4 : (p.op == 4) = false := by simpa using h4
    have e5 : (p.op == 5) = false := by simpa using h5
    have e6 : (p.op == 6) = false := by simpa using h6
    have e7 : (p.op == 7) = false := by simpa using h7
    have e8 : (p.op == 8) = false := by simpa using h8
    have e9 : (p.op == 9) = false := by simpa using h9
    have e10 : (p.op == 10) = false := by simpa using h10
    have e11 : (p.op == 11) = false := by simpa using h11
    have e12 : (p.op == 12) = false := by simpa using h12
    obtain rfl : R = false := by rw [hR, e1, e2, e3, e4, e5, e6, e7, e8, e9, e10, e11, e12]; rfl
    have HB := hide (below_alloc (Below.refl _ w) (.cells #[.int .i64 p.op, .string p.tab, .slice m.aE p.ex.length m.cE, .slice m.aC p.cols.length m.cC, .slice m.aK p.keys.length m.cK, .slice m.aA p.aggs.length m.cA, .int .i64 p.fn, .int .i64 p.col, .int .i64 p.n, .int .i64 p.off, .slice m.aP p.args.length m.cP] 28))
    clear hR ho hf h1 h2 h3 h4 h5 h6 h7 h8 h9 h10 h11 h12
    go_enter Tryz.func72, Tryz.ntmps72
    go_wp2
    go_ret
    exact ⟨rfl, unhide HB⟩
end Go.Proofs.YtcpndojkfngioaaGreat
