import Derived.Test.YtfnacpkodfhfoacAnyG
import Derived.Test.YtfnacpkodfhfoacFoB
set_option linter.unusedSimpArgs false
set_option linter.unusedVariables false
namespace Go.Proofs.Ytfnacpkodfhfoac
open Go.RowKit Go.Sort

theorem notconst_any (e : Ex) (a : Option Addr) (c : Nat) (w : World) : Calls Try.prog 51 #[e.val a c] w fun r w' => r = .returned (.bool (notConst e)) ∧ Below w.heap.size w w' := by
  rw [Ex.val_open]
  go_enter Try.func51, Try.ntmps51
  go_wp2
  go_ret
  exact ⟨rfl, by first | exact Below.refl _ _ | exact below_alloc (Below.refl _ _) _⟩
theorem istrue_any (e : Ex) (a : Option Addr) (c : Nat) (w : World) : Calls Try.prog 54 #[e.val a c] w fun r w' => r = .returned (.bool (isTrueE e)) ∧ Below w.heap.size w w' := by
  have HT := hide (fun W => true_any e.v W)
  have HB0 := hide (below_alloc (Below.refl _ w) (.cells #[.int .i64 e.op, .int .i64 e.n, .int .i64 e.v.k, .int .i64 e.v.n, .string e.v.s, .slice a e.args.length c] 26))
  rw [Val.open_] at HT
  unfold isTrueE
  by_cases h2 : e.op = 2
  · rw [Ex.val_open, h2]
    rw [h2] at HB0
    generalize trueB e.v = t at *
    go_enter Try.func54, Try.ntmps54
    go_wp2_with (go_at_call 66; refine (unhide HT _).mono ?_; rintro r w1 ⟨rfl, hb1⟩)
    go_ret
    exact ⟨by simp, below_step (unhide HB0) hb1⟩
  · have e2 : (e.op == 2) = false := by simpa using h2
    rw [Ex.val_open]
    go_enter Try.func54, Try.ntmps54
    go_wp2
    go_ret
    exact ⟨by rw [e2]; rfl, unhide HB0⟩
theorem expnum0 (n : Int) (w : World) : Calls Try.prog 55 #[.int .i64 n] w fun e w' => e = .returned (Val.num n).v ∧ Below w.heap.size w w' := by
  go_enter Try.func55, Try.ntmps55
  go_wp2
  refine bodyPost_ret (v := (Val.num n).v) (by simp [results, Try.results55, go_sem, Val.v, Val.num]) rfl ⟨rfl, below_alloc (Below.refl _ _) _⟩
theorem bytes_inj (a b : ByteArray) : a.toList = b.toList ↔ a = b := by
  rw [ByteArray.toList_eq, ByteArray.toList_eq]
  exact ⟨fun h => ByteArray.ext (Array.toList_inj.1 h), fun h => by rw [h]⟩
theorem eqV (x y : Val) (w : World) : (binOp .eql 23 (.agg #[.int .i64 x.k, .int .i64 x.n, .string x.s]) (.agg #[.int .i64 y.k, .int .i64 y.n, .string y.s])).run Try.prog w = .ok (.bool (decide (x.k = y.k) && (decide (x.n = y.n) && decide (x.s = y.s)))) w := by
  have u2 := Try.underlying2
  have u3 := Try.underlying3
  have u9 := Try.underlying9
  have a2 := Try.isAgg2
  have a3 := Try.isAgg3
  have a9 := Try.isAgg9
  have z2 := Try.sizeOf2
  have z3 := Try.sizeOf3
  have z9 := Try.sizeOf9
  have hS : Try.prog.underlying 23 = some (.struct (Try.prog.fieldsOf 23)) := by kernel_rfl
  have hp : Try.prog.stoodInHeld 23 = false := by kernel_rfl
  rw [run_eql_struct, show (10000 : Nat) = 9999 + 1 from rfl, run_equalIn_agg w 9999 23 _ _ hS hp]
  simp only [Program.fieldsOf, Try.underlying23]
  go_simp
  by_cases h1 : x.k = y.k <;> by_cases h2 : x.n = y.n <;> by_cases h3 : x.s = y.s <;> simp [h1, h2, h3, bytes_inj]
theorem wpOp_no {P : Program} {ops : Array Oper} {Q : Exit → Act → World → Prop} {i : Nat} {o : Oper} {r : List Oper} {a : Act} {w : World} {K : Act → World → Prop} (hi : ops.toList.drop i = o :: r) (hw : Region.wanted o (yielded ops a.tmps) = false)
    (h : K (a.put o.dst undef) w) : wpOp P ops Q i K a w := by
  unfold wpOp
  rw [drop_at hi]
  simp only [hw, Bool.false_eq_true, if_false]
  exact h
set_option maxHeartbeats 1000000 in
set_option maxRecDepth 100000 in
theorem iszero_any (e : Ex) (a : Option Addr) (c : Nat) (w : World) : Calls Try.prog 53 #[e.val a c] w fun r w' => r = .returned (.bool (isZeroE e)) ∧ Below w.heap.size w w' := by
  have HT := hide (fun W => expnum0 0 W)
  have HB0 := hide (below_alloc (Below.refl _ w) (.cells #[.int .i64 e.op, .int .i64 e.n, .int .i64 e.v.k, .int .i64 e.v.n, .string e.v.s, .slice a e.args.length c] 26))
  have H6 : Hid (Six (w.alloc (.cells #[.int .i64 e.op, .int .i64 e.n, .int .i64 e.v.k, .int .i64 e.v.n, .string e.v.s, .slice a e.args.length c] 26)) w.heap.size e a c) := Six.new w e a c
  rw [Ex.val_open]
  have HX : Hid (isZeroE e = ((e.op == 2) && (decide (e.v.k = 1) && (decide (e.v.n = 0) && decide (e.v.s = ⟨#[]⟩))))) := rfl
  obtain ⟨R, hR⟩ : ∃ R, R = isZeroE e := ⟨_, rfl⟩
  rw [← hR] at HX ⊢
  obtain ⟨op, hop⟩ : ∃ x, x = e.op := ⟨_, rfl⟩
  obtain ⟨n, hn⟩ : ∃ x, x = e.n := ⟨_, rfl⟩
  obtain ⟨vk, hvk⟩ : ∃ x, x = e.v.k := ⟨_, rfl⟩
  obtain ⟨vn, hvn⟩ : ∃ x, x = e.v.n := ⟨_, rfl⟩
  obtain ⟨vs, hvs⟩ : ∃ x, x = e.v.s := ⟨_, rfl⟩
  obtain ⟨m, hm⟩ : ∃ x, x = e.args.length := ⟨_, rfl⟩
  unfold Six at H6
  rw [← hop, ← hn, ← hvk, ← hvn, ← hvs, ← hm] at HB0 H6 ⊢
  rw [← hop, ← hvk, ← hvn, ← hvs] at HX
  clear hR hop hn hvk hvn hvs hm
  go_enter Try.func53, Try.ntmps53
  go_upto_region 1 with fail
  obtain ⟨c0, c1, c2, c3, c4, c5⟩ := unhide H6
  obtain ⟨wa, hwa⟩ : ∃ wa, wa = w.alloc (.cells #[.int .i64 op, .int .i64 n, .int .i64 vk, .int .i64 vn, .string vs, .slice a m c] 26) := ⟨_, rfl⟩
  rw [← hwa] at HB0 c0 c1 c2 c3 c4 c5 ⊢
  clear hwa H6
  go_cut [2] (fun v wx => v = .bool R ∧ Hid (Below w.heap.size w wx))
  case first =>
    refine wp_region_noPanic ?_
    refine wp_region_G (S := fun w' : World => Below wa.heap.size wa w') (k := 9) (by kernel_rfl) ?_
    by_cases h2 : op = 2
    · subst h2
      refine anyG_takel (i := 0) (v := (.pointer (some ⟨w.heap.size, 0, none⟩))) [1, 2, 3, 8, 9] rfl (by kernel_rfl) (by kernel_rfl) (by kernel_rfl) (by kernel_rfl) (fun _ _ _ h => h) (Or.inl ⟨by rfl, fun w' hSw => ?_⟩) ((Below.refl _ wa).drew) ?_
      · have e0 := clater c0 hSw; have e1 := clater c1 hSw; have e2 := clater c2 hSw; have e3 := clater c3 hSw; have e4 := clater c4 hSw; have e5 := clater c5 hSw
        clear c0 c1 c2 c3 c4 c5
        go_simp
      try simp only [Act.put, List.setIfInBounds_toArray, List.set_cons_zero, List.set_cons_succ]
      refine anyG_takel (i := 1) (v := (.int .i64 2)) [2, 3, 8, 9] rfl (by kernel_rfl) (by kernel_rfl) (by kernel_rfl) (by kernel_rfl) (fun _ _ _ h => h) (Or.inl ⟨by rfl, fun w' hSw => ?_⟩) ((Below.refl _ wa).drew) ?_
      · have e0 := clater c0 hSw; have e1 := clater c1 hSw; have e2 := clater c2 hSw; have e3 := clater c3 hSw; have e4 := clater c4 hSw; have e5 := clater c5 hSw
        clear c0 c1 c2 c3 c4 c5
        go_simp
      try simp only [Act.put, List.setIfInBounds_toArray, List.set_cons_zero, List.set_cons_succ]
      refine anyG_takel (i := 2) (v := (.bool true)) [3, 8, 9] rfl (by kernel_rfl) (by kernel_rfl) (by kernel_rfl) (by kernel_rfl) (fun _ _ _ h => h) (Or.inl ⟨by rfl, fun w' hSw => ?_⟩) ((Below.refl _ wa).drew) ?_
      · have e0 := clater c0 hSw; have e1 := clater c1 hSw; have e2 := clater c2 hSw; have e3 := clater c3 hSw; have e4 := clater c4 hSw; have e5 := clater c5 hSw
        clear c0 c1 c2 c3 c4 c5
        go_simp
      try simp only [Act.put, List.setIfInBounds_toArray, List.set_cons_zero, List.set_cons_succ]
      refine anyG_takel (i := 3) (v := (.bool true)) [8, 9] rfl (by kernel_rfl) (by kernel_rfl) (by kernel_rfl) (by kernel_rfl) (fun _ _ _ h => h) (Or.inl ⟨by rfl, fun w' hSw => ?_⟩) ((Below.refl _ wa).drew) ?_
      · have e0 := clater c0 hSw; have e1 := clater c1 hSw; have e2 := clater c2 hSw; have e3 := clater c3 hSw; have e4 := clater c4 hSw; have e5 := clater c5 hSw
        clear c0 c1 c2 c3 c4 c5
        go_simp
      try simp only [Act.put, List.setIfInBounds_toArray, List.set_cons_zero, List.set_cons_succ]
      refine anyG_takel (i := 4) (v := (.pointer (some ⟨w.heap.size, 2, none⟩))) [5, 7, 8, 9] rfl (by kernel_rfl) (by kernel_rfl) (by kernel_rfl) (by kernel_rfl) (fun _ _ _ h => h) (Or.inl ⟨by rfl, fun w' hSw => ?_⟩) ((Below.refl _ wa).drew) ?_
      · have e0 := clater c0 hSw; have e1 := clater c1 hSw; have e2 := clater c2 hSw; have e3 := clater c3 hSw; have e4 := clater c4 hSw; have e5 := clater c5 hSw
        clear c0 c1 c2 c3 c4 c5
        go_simp
      try simp only [Act.put, List.setIfInBounds_toArray, List.set_cons_zero, List.set_cons_succ]
      refine anyG_takel (i := 5) (v := (.agg #[.int .i64 vk, .int .i64 vn, .string vs])) [7, 8, 9] rfl (by kernel_rfl) (by kernel_rfl) (by kernel_rfl) (by kernel_rfl) (fun _ _ _ h => h) (Or.inl ⟨by rfl, fun w' hSw => ?_⟩) ((Below.refl _ wa).drew) ?_
      · have e0 := clater c0 hSw; have e1 := clater c1 hSw; have e2 := clater c2 hSw; have e3 := clater c3 hSw; have e4 := clater c4 hSw; have e5 := clater c5 hSw
        clear c0 c1 c2 c3 c4 c5
        go_simp
      try simp only [Act.put, List.setIfInBounds_toArray, List.set_cons_zero, List.set_cons_succ]
      clear c0 c1 c2 c3 c4 c5
      refine anyG_one (i := 6) (by kernel_rfl) ?_
      refine wpOp_lit rfl (by rfl) fun K' hK' => ?_
      go_simp
      refine (unhide HT _).mono ?_
      rintro r w1 ⟨rfl, hb1⟩
      go_simp
      refine unhide hK' _ _ ⟨fun _ => below_step ((Below.refl _ wa).drew) hb1, ?_⟩
      clear hK' K'
      refine anyG_takel (i := 7) (v := .bool R) [8, 9] rfl (by kernel_rfl) (by kernel_rfl) (by kernel_rfl) (by kernel_rfl) (fun _ _ _ h => h) (Or.inl ⟨by rfl, fun w' hSw => ?_⟩) (below_step ((Below.refl _ wa).drew) hb1) ?_
      · have hR : R = (decide (vk = 1) && (decide (vn = 0) && decide (vs = ⟨#[]⟩))) := by rw [unhide HX]; rfl
        rw [Val.open_]
        have hq := eqV ⟨vk, vn, vs⟩ (.num 0) w'
        simp only [Val.num] at hq
        have hg : ∀ W, (eqGuard .eql 23 (.tmp 8) (.tmp 9) (.agg #[.int .i64 vk, .int .i64 vn, .string vs]) (.agg #[.int .i64 1, .int .i64 0, .string ⟨#[]⟩])).run Try.prog W = .ok () W := fun W => run_eqGuard_agg W .eql 23 (.tmp 8) (.tmp 9) _ _ (by kernel_rfl)
        rw [hR]
        clear HX HT
        unfold execOp
        simp only [Sem.run_bind]
        erw [hg w']
        simp only [Result.andThen_ok]
        erw [hq]
        simp only [Result.andThen_ok, Sem.run_pure]
        rfl
      try simp only [Act.put, List.setIfInBounds_toArray, List.set_cons_zero, List.set_cons_succ]
      refine anyG_takel (i := 8) (v := .bool R) [9] rfl (by kernel_rfl) (by kernel_rfl) (by kernel_rfl) (by kernel_rfl) (fun _ _ _ h => h) (Or.inl ⟨by rfl, fun w' hSw => ?_⟩) (below_step ((Below.refl _ wa).drew) hb1) ?_
      · go_simp
      try simp only [Act.put, List.setIfInBounds_toArray, List.set_cons_zero, List.set_cons_succ]
      refine anyG_one (i := 9) (by kernel_rfl) ?_
      refine wpOp_lit rfl (by rfl) fun K' hK' => ?_
      go_simp
      refine unhide hK' _ _ ⟨fun hh => absurd hh (by decide), ?_⟩
      clear hK' K'
      refine anyG_done (by kernel_rfl) ?_ _
      refine NoPanic.normal ?_
      go_wp2
      go_meet
      exact ⟨rfl, below_step (unhide HB0).drew hb1⟩
    · have HR : Hid (R = false) := by show R = false; rw [unhide HX]; simp [h2]
      refine anyG_takel (i := 0) (v := (.pointer (some ⟨w.heap.size, 0, none⟩))) [1, 2, 3, 8, 9] rfl (by kernel_rfl) (by kernel_rfl) (by kernel_rfl) (by kernel_rfl) (fun _ _ _ h => h) (Or.inl ⟨by rfl, fun w' hSw => ?_⟩) ((Below.refl _ wa).drew) ?_
      · have e0 := clater c0 hSw; have e1 := clater c1 hSw; have e2 := clater c2 hSw; have e3 := clater c3 hSw; have e4 := clater c4 hSw; have e5 := clater c5 hSw
        clear c0 c1 c2 c3 c4 c5
        go_simp
      try simp only [Act.put, List.setIfInBounds_toArray, List.set_cons_zero, List.set_cons_succ]
      refine anyG_takel (i := 1) (v := (.int .i64 op)) [2, 3, 8, 9] rfl (by kernel_rfl) (by kernel_rfl) (by kernel_rfl) (by kernel_rfl) (fun _ _ _ h => h) (Or.inl ⟨by rfl, fun w' hSw => ?_⟩) ((Below.refl _ wa).drew) ?_
      · have e0 := clater c0 hSw; have e1 := clater c1 hSw; have e2 := clater c2 hSw; have e3 := clater c3 hSw; have e4 := clater c4 hSw; have e5 := clater c5 hSw
        clear c0 c1 c2 c3 c4 c5
        go_simp
      try simp only [Act.put, List.setIfInBounds_toArray, List.set_cons_zero, List.set_cons_succ]
      refine anyG_takel (i := 2) (v := (.bool false)) [3, 8, 9] rfl (by kernel_rfl) (by kernel_rfl) (by kernel_rfl) (by kernel_rfl) (fun _ _ _ h => h) (Or.inl ⟨by rfl, fun w' hSw => ?_⟩) ((Below.refl _ wa).drew) ?_
      · have e0 := clater c0 hSw; have e1 := clater c1 hSw; have e2 := clater c2 hSw; have e3 := clater c3 hSw; have e4 := clater c4 hSw; have e5 := clater c5 hSw
        clear c0 c1 c2 c3 c4 c5
        go_simp
      try simp only [Act.put, List.setIfInBounds_toArray, List.set_cons_zero, List.set_cons_succ]
      refine anyG_takel (i := 3) (v := (.bool false)) [8, 9] rfl (by kernel_rfl) (by kernel_rfl) (by kernel_rfl) (by kernel_rfl) (fun _ _ _ h => h) (Or.inl ⟨by rfl, fun w' hSw => ?_⟩) ((Below.refl _ wa).drew) ?_
      · have e0 := clater c0 hSw; have e1 := clater c1 hSw; have e2 := clater c2 hSw; have e3 := clater c3 hSw; have e4 := clater c4 hSw; have e5 := clater c5 hSw
        clear c0 c1 c2 c3 c4 c5
        go_simp
      try simp only [Act.put, List.setIfInBounds_toArray, List.set_cons_zero, List.set_cons_succ]
      refine anyG_takel (i := 4) (v := undef) [5, 7, 8, 9] rfl (by kernel_rfl) (by kernel_rfl) (by kernel_rfl) (by kernel_rfl) (fun _ _ _ h => h) (Or.inr ⟨by rfl, rfl⟩) ((Below.refl _ wa).drew) ?_
      try simp only [Act.put, List.setIfInBounds_toArray, List.set_cons_zero, List.set_cons_succ]
      refine anyG_takel (i := 5) (v := undef) [7, 8, 9] rfl (by kernel_rfl) (by kernel_rfl) (by kernel_rfl) (by kernel_rfl) (fun _ _ _ h => h) (Or.inr ⟨by rfl, rfl⟩) ((Below.refl _ wa).drew) ?_
      try simp only [Act.put, List.setIfInBounds_toArray, List.set_cons_zero, List.set_cons_succ]
      refine anyG_one (i := 6) (by kernel_rfl) ?_
      refine wpOp_no rfl (by rfl) ⟨fun _ => (Below.refl _ wa).drew, ?_⟩
      try simp only [Act.put, List.setIfInBounds_toArray, List.set_cons_zero, List.set_cons_succ]
      refine anyG_takel (i := 7) (v := undef) [8, 9] rfl (by kernel_rfl) (by kernel_rfl) (by kernel_rfl) (by kernel_rfl) (fun _ _ _ h => h) (Or.inr ⟨by rfl, rfl⟩) ((Below.refl _ wa).drew) ?_
      try simp only [Act.put, List.setIfInBounds_toArray, List.set_cons_zero, List.set_cons_succ]
      refine anyG_takel (i := 8) (v := .bool false) [9] rfl (by kernel_rfl) (by kernel_rfl) (by kernel_rfl) (by kernel_rfl) (fun _ _ _ h => h) (Or.inl ⟨by rfl, fun w' hSw => ?_⟩) ((Below.refl _ wa).drew) ?_
      · go_simp
      try simp only [Act.put, List.setIfInBounds_toArray, List.set_cons_zero, List.set_cons_succ]
      clear c0 c1 c2 c3 c4 c5
      refine anyG_one (i := 9) (by kernel_rfl) ?_
      refine wpOp_lit rfl (by rfl) fun K' hK' => ?_
      go_simp
      refine unhide hK' _ _ ⟨fun hh => absurd hh (by decide), ?_⟩
      clear hK' K'
      refine anyG_done (by kernel_rfl) ?_ _
      refine NoPanic.normal ?_
      go_wp2
      go_meet
      exact ⟨by rw [unhide HR], (unhide HB0).drew⟩
  case rest =>
    obtain ⟨rfl, HB⟩ := hcut
    go_wp2
    go_ret
    exact ⟨rfl, unhide HB⟩
end Go.Proofs.Ytfnacpkodfhfoac
