import Derived.Test.YtmjeiepljlepbacGreatAnyG
import Derived.Test.YtmjeiepljlepbacGreatExV
set_option linter.unusedSimpArgs false
set_option linter.unusedVariables false
set_option maxRecDepth 100000
namespace Go.Proofs.YtmjeiepljlepbacGreat
open Go.RowKit Go.Sort

theorem notconst_any (e : Ex) (a : Option Addr) (c : Nat) (w : World) : Calls Tryz.prog 121 #[e.val a c] w fun r w' => r = .returned (.bool (notConst e)) ∧ Below w.heap.size w w' := by
  rw [Ex.val_open]
  go_enter Tryz.func121, Tryz.ntmps121
  go_wp2
  go_ret
  exact ⟨rfl, by first | exact Below.refl _ _ | exact below_alloc (Below.refl _ _) _⟩
theorem istrue_any (e : Ex) (a : Option Addr) (c : Nat) (w : World) : Calls Tryz.prog 125 #[e.val a c] w fun r w' => r = .returned (.bool (isTrueE e)) ∧ Below w.heap.size w w' := by
  have HT := hide (fun W => true_any e.v W)
  have HB0 := hide (below_alloc (Below.refl _ w) (.cells #[.int .i64 e.op, .int .i64 e.n, .int .i64 e.v.k, .int .i64 e.v.n, .string e.v.s, .slice a e.args.length c] 59))
  rw [Val.open_] at HT
  unfold isTrueE
  by_cases h2 : e.op = 2
  · rw [Ex.val_open, h2]
    rw [h2] at HB0
    generalize trueB e.v = t at *
    go_enter Tryz.func125, Tryz.ntmps125
    go_wp2_with (go_at_call 57; refine (unhide HT _).mono ?_; rintro r w1 ⟨rfl, hb1⟩)
    go_ret
    exact ⟨by simp, below_step (unhide HB0) hb1⟩
  · have e2 : (e.op == 2) = false := by simpa using h2
    rw [Ex.val_open]
    go_enter Tryz.func125, Tryz.ntmps125
    go_wp2
    go_ret
    exact ⟨by rw [e2]; rfl, unhide HB0⟩
theorem expnum0 (n : Int) (w : World) : Calls Tryz.prog 126 #[.int .i64 n] w fun e w' => e = .returned (Val.num n).v ∧ Below w.heap.size w w' := by
  go_enter Tryz.func126, Tryz.ntmps126
  go_wp2
  refine bodyPost_ret (v := (Val.num n).v) (by simp [results, Tryz.results126, go_sem, Val.v, Val.num]) rfl ⟨rfl, below_alloc (Below.refl _ _) _⟩
theorem bytes_inj (a b : ByteArray) : a.toList = b.toList ↔ a = b := by
  rw [ByteArray.toList_eq, ByteArray.toList_eq]
  exact ⟨fun h => ByteArray.ext (Array.toList_inj.1 h), fun h => by rw [h]⟩
theorem eqV (x y : Val) (w : World) : (binOp .eql 38 (.agg #[.int .i64 x.k, .int .i64 x.n, .string x.s]) (.agg #[.int .i64 y.k, .int .i64 y.n, .string y.s])).run Tryz.prog w = .ok (.bool (decide (x.k = y.k) && (decide (x.n = y.n) && decide (x.s = y.s)))) w := by
  have u2 := Tryz.underlying2
  have u3 := Tryz.underlying3
  have u9 := Tryz.underlying9
  have a2 := Tryz.isAgg2
  have a3 := Tryz.isAgg3
  have a9 := Tryz.isAgg9
  have z2 := Tryz.sizeOf2
  have z3 := Tryz.sizeOf3
  have z9 := Tryz.sizeOf9
  have hS : Tryz.prog.underlying 38 = some (.struct (Tryz.prog.fieldsOf 38)) := by kernel_rfl
  have hp : Tryz.prog.stoodInHeld 38 = false := by kernel_rfl
  rw [run_eql_struct, show (10000 : Nat) = 9999 + 1 from rfl, run_equalIn_agg w 9999 38 _ _ hS hp]
  simp only [Program.fieldsOf, Tryz.underlying38]
  go_simp
  by_cases h1 : x.k = y.k <;> by_cases h2 : x.n = y.n <;> by_cases h3 : x.s = y.s <;> simp [h1, h2, h3, bytes_inj]
theorem wpOp_no {P : Program} {ops : Array Oper} {Q : Exit → Act → World → Prop} {i : Nat} {o : Oper} {r : List Oper} {a : Act} {w : World} {K : Act → World → Prop} (hi : ops.toList.drop i = o :: r) (hw : Region.wanted o (yielded ops a.tmps) = false)
    (h : K (a.put o.dst undef) w) : wpOp P ops Q i K a w := by
  unfold wpOp
  rw [drop_at hi]
  simp only [hw, Bool.false_eq_true, if_false]
  exact h
set_option maxHeartbeats 1000000 in
set_option maxRecDepth 100000 in
theorem iszero_any (e : Ex) (a : Option Addr) (c : Nat) (w : World) : Calls Tryz.prog 124 #[e.val a c] w fun r w' => r = .returned (.bool (isZeroE e)) ∧ Below w.heap.size w w' := by
  have HT := hide (fun W => expnum0 0 W)
  have HB0 := hide (below_alloc (Below.refl _ w) (.cells #[.int .i64 e.op, .int .i64 e.n, .int .i64 e.v.k, .int .i64 e.v.n, .string e.v.s, .slice a e.args.length c] 59))
  have H6 : Hid (Six (w.alloc (.cells #[.int .i64 e.op, .int .i64 e.n, .int .i64 e.v.k, .int .i64 e.v.n, .string e.v.s, .slice a e.args.length c] 59)) w.heap.size e a c) := Six.new w e a c
  rw [Ex.val_open]
  have HX : Hid (isZeroE e = ((e.op == 2) && (decide (e.v.k = 1) && (decide (e.v.n = 0) && decide (e.v.s = ⟨#[]⟩))))) := rfl
  obtain ⟨R, hR⟩ : ∃ R, R = isZeroE e := ⟨_, rfl⟩
  rw [← hR] at HX ⊢
  obtain ⟨op, hop⟩ : ∃ x, x = e.op := ⟨_, rfl⟩
  obtain ⟨n, hn⟩ : ∃ x, x = e.n := ⟨_, rfl⟩
  obtain ⟨vk, hvk⟩ : ∃ x, x = e.v.k := ⟨_, rfl⟩
  obtain ⟨vn, hvn⟩ : ∃ x, x = e.v.n := ⟨_, rfl⟩
  obtain ⟨vs, hvs⟩ : ∃ x, x = e.v.s := ⟨_, rfl⟩
  obtain ⟨m, hm⟩ : ∃ x, x = e.args.length := ⟨_, rfl⟩
  unfold Six at H6
  rw [← hop, ← hn, ← hvk, ← hvn, ← hvs, ← hm] at HB0 H6 ⊢
  rw [← hop, ← hvk, ← hvn, ← hvs] at HX
  clear hR hop hn hvk hvn hvs hm
  go_enter Tryz.func124, Tryz.ntmps124
  go_upto_region 1 with fail
  obtain ⟨c0, c1, c2, c3, c4, c5⟩ := unhide H6
  obtain ⟨wa, hwa⟩ : ∃ wa, wa = w.alloc (.cells #[.int .i64 op, .int .i64 n, .int .i64 vk, .int .i64 vn, .string vs, .slice a m c] 59) := ⟨_, rfl⟩
  rw [← hwa] at HB0 c0 c1 c2 c3 c4 c5 ⊢
  clear hwa H6
  go_cut [2] (fun v wx => v = .bool R ∧ Hid (Below w.heap.size w wx))
  case first =>
    refine wp_region_noPanic ?_
    refine wp_region_G (S := fun w' : World => Below wa.heap.size wa w') (k := 9) (by kernel_rfl) ?_
    by_cases h2 : op = 2
    · subst h2
      refine anyG_takel (i := 0) (v := (.pointer (some ⟨w.heap.size, 0, none⟩))) [1, 2, 3, 8, 9] rfl (by kernel_rfl) (by kernel_rfl) (by kernel_rfl) (by kernel_rfl) (fun _ _ _ h => h) (Or.inl ⟨by rfl, fun w' hSw => ?_⟩) ((Below.refl _ wa).drew) ?_
      · have e0 := clater c0 hSw; have e1 := clater c1 hSw; have e2 := clater c2 hSw; have e3 := clater c3 hSw; have e4 := clater c4 hSw; have e5 := clater c5 hSw
        clear c0 c1 c2 c3 c4 c5
        go_simp
      try simp only [Act.put, List.setIfInBounds_toArray, List.set_cons_zero, List.set_cons_succ]
      refine anyG_takel (i := 1) (v := (.int .i64 2)) [2, 3, 8, 9] rfl (by kernel_rfl) (by kernel_rfl) (by kernel_rfl) (by kernel_rfl) (fun _ _ _ h => h) (Or.inl ⟨by rfl, fun w' hSw => ?_⟩) ((Below.refl _ wa).drew) ?_
      · have e0 := clater c0 hSw; have e1 := clater c1 hSw; have e2 := clater c2 hSw; have e3 := clater c3 hSw; have e4 := clater c4 hSw; have e5 := clater c5 hSw
        clear c0 c1 c2 c3 c4 c5
        go_simp
      try simp only [Act.put, List.setIfInBounds_toArray, List.set_cons_zero, List.set_cons_succ]
      refine anyG_takel (i := 2) (v := (.bool true)) [3, 8, 9] rfl (by kernel_rfl) (by kernel_rfl) (by kernel_rfl) (by kernel_rfl) (fun _ _ _ h => h) (Or.inl ⟨by rfl, fun w' hSw => ?_⟩) ((Below.refl _ wa).drew) ?_
      · have e0 := clater c0 hSw; have e1 := clater c1 hSw; have e2 := clater c2 hSw; have e3 := clater c3 hSw; have e4 := clater c4 hSw; have e5 := clater c5 hSw
        clear c0 c1 c2 c3 c4 c5
        go_simp
      try simp only [Act.put, List.setIfInBounds_toArray, List.set_cons_zero, List.set_cons_succ]
      refine anyG_takel (i := 3) (v := (.bool true)) [8, 9] rfl (by kernel_rfl) (by kernel_rfl) (by kernel_rfl) (by kernel_rfl) (fun _ _ _ h => h) (Or.inl ⟨by rfl, fun w' hSw => ?_⟩) ((Below.refl _ wa).drew) ?_
      · have e0 := clater c0 hSw; have e1 := clater c1 hSw; have e2 := clater c2 hSw; have e3 := clater c3 hSw; have e4 := clater c4 hSw; have e5 := clater c5 hSw
        clear c0 c1 c2 c3 c4 c5
        go_simp
      try simp only [Act.put, List.setIfInBounds_toArray, List.set_cons_zero, List.set_cons_succ]
      refine anyG_takel (i := 4) (v := (.pointer (some ⟨w.heap.size, 2, none⟩))) [5, 7, 8, 9] rfl (by kernel_rfl) (by kernel_rfl) (by kernel_rfl) (by kernel_rfl) (fun _ _ _ h => h) (Or.inl ⟨by rfl, fun w' hSw => ?_⟩) ((Below.refl _ wa).drew) ?_
      · have e0 := clater c0 hSw; have e1 := clater c1 hSw; have e2 := clater c2 hSw; have e3 := clater c3 hSw; have e4 := clater c4 hSw; have e5 := clater c5 hSw
        clear c0 c1 c2 c3 c4 c5
        go_simp
      try simp only [Act.put, List.setIfInBounds_toArray, List.set_cons_zero, List.set_cons_succ]
      refine anyG_takel (i := 5) (v := (.agg #[.int .i64 vk, .int .i64 vn, .string vs])) [7, 8, 9] rfl (by kernel_rfl) (by kernel_rfl) (by kernel_rfl) (by kernel_rfl) (fun _ _ _ h => h) (Or.inl ⟨by rfl, fun w' hSw => ?_⟩) ((Below.refl _ wa).drew) ?_
      · have e0 := clater c0 hSw; have e1 := clater c1 hSw; have e2 := clater c2 hSw; have e3 := clater c3 hSw; have e4 := clater c4 hSw; have e5 := clater c5 hSw
        clear c0 c1 c2 c3 c4 c5
        go_simp
      try simp only [Act.put, List.setIfInBounds_toArray, List.set_cons_zero, List.set_cons_succ]
      clear c0 c1 c2 c3 c4 c5
      refine anyG_one (i := 6) (by kernel_rfl) ?_
      refine wpOp_lit rfl (by rfl) fun K' hK' => ?_
      go_simp
      refine (unhide HT _).mono ?_
      rintro r w1 ⟨rfl, hb1⟩
      go_simp
      refine unhide hK' _ _ ⟨fun _ => below_step ((Below.refl _ wa).drew) hb1, ?_⟩
      clear hK' K'
      refine anyG_takel (i := 7) (v := .bool R) [8, 9] rfl (by kernel_rfl) (by kernel_rfl) (by kernel_rfl) (by kernel_rfl) (fun _ _ _ h => h) (Or.inl ⟨by rfl, fun w' hSw => ?_⟩) (below_step ((Below.refl _ wa).drew) hb1) ?_
      · have hR : R = (decide (vk = 1) && (decide (vn = 0) && decide (vs = ⟨#[]⟩))) := by rw [unhide HX]; rfl
        rw [Val.open_]
        have hq := eqV ⟨vk, vn, vs⟩ (.num 0) w'
        simp only [Val.num] at hq
        have hg : ∀ W, (eqGuard .eql 38 (.tmp 8) (.tmp 9) (.agg #[.int .i64 vk, .int .i64 vn, .string vs]) (.agg #[.int .i64 1, .int .i64 0, .string ⟨#[]⟩])).run Tryz.prog W = .ok () W := fun W => run_eqGuard_agg W .eql 38 (.tmp 8) (.tmp 9) _ _ (by kernel_rfl)
        rw [hR]
        clear HX HT
        unfold execOp
        simp only [Sem.run_bind]
        erw [hg w']
        simp only [Result.andThen_ok]
        erw [hq]
        simp only [Result.andThen_ok, Sem.run_pure]
        rfl
      try simp only [Act.put, List.setIfInBounds_toArray, List.set_cons_zero, List.set_cons_succ]
      refine anyG_takel (i := 8) (v := .bool R) [9] rfl (by kernel_rfl) (by kernel_rfl) (by kernel_rfl) (by kernel_rfl) (fun _ _ _ h => h) (Or.inl ⟨by rfl, fun w' hSw => ?_⟩) (below_step ((Below.refl _ wa).drew) hb1) ?_
      · go_simp
      try simp only [Act.put, List.setIfInBounds_toArray, List.set_cons_zero, List.set_cons_succ]
      refine anyG_one (i := 9) (by kernel_rfl) ?_
      refine wpOp_lit rfl (by rfl) fun K' hK' => ?_
      go_simp
      refine unhide hK' _ _ ⟨fun hh => absurd hh (by decide), ?_⟩
      clear hK' K'
      refine anyG_done (by kernel_rfl) ?_ _
      refine NoPanic.normal ?_
      go_wp2
      go_meet
      exact ⟨rfl, below_step (unhide HB0).drew hb1⟩
    · have HR : Hid (R = false) := by show R = false; rw [unhide HX]; simp [h2]
      refine anyG_takel (i := 0) (v := (.pointer (some ⟨w.heap.size, 0, none⟩))) [1, 2, 3, 8, 9] rfl (by kernel_rfl) (by kernel_rfl) (by kernel_rfl) (by kernel_rfl) (fun _ _ _ h => h) (Or.inl ⟨by rfl, fun w' hSw => ?_⟩) ((Below.refl _ wa).drew) ?_
      · have e0 := clater c0 hSw; have e1 := clater c1 hSw; have e2 := clater c2 hSw; have e3 := clater c3 hSw; have e4 := clater c4 hSw; have e5 := clater c5 hSw
        clear c0 c1 c2 c3 c4 c5
        go_simp
      try simp only [Act.put, List.setIfInBounds_toArray, List.set_cons_zero, List.set_cons_succ]
      refine anyG_takel (i := 1) (v := (.int .i64 op)) [2, 3, 8, 9] rfl (by kernel_rfl) (by kernel_rfl) (by kernel_rfl) (by kernel_rfl) (fun _ _ _ h => h) (Or.inl ⟨by rfl, fun w' hSw => ?_⟩) ((Below.refl _ wa).drew) ?_
      · have e0 := clater c0 hSw; have e1 := clater c1 hSw; have e2 := clater c2 hSw; have e3 := clater c3 hSw; have e4 := clater c4 hSw; have e5 := clater c5 hSw
        clear c0 c1 c2 c3 c4 c5
        go_simp
      try simp only [Act.put, List.setIfInBounds_toArray, List.set_cons_zero, List.set_cons_succ]
      refine anyG_takel (i := 2) (v := (.bool false)) [3, 8, 9] rfl (by kernel_rfl) (by kernel_rfl) (by kernel_rfl) (by kernel_rfl) (fun _ _ _ h => h) (Or.inl ⟨by rfl, fun w' hSw => ?_⟩) ((Below.refl _ wa).drew) ?_
      · have e0 := clater c0 hSw; have e1 := clater c1 hSw; have e2 := clater c2 hSw; have e3 := clater c3 hSw; have e4 := clater c4 hSw; have e5 := clater c5 hSw
        clear c0 c1 c2 c3 c4 c5
        go_simp
      try simp only [Act.put, List.setIfInBounds_toArray, List.set_cons_zero, List.set_cons_succ]
      refine anyG_takel (i := 3) (v := (.bool false)) [8, 9] rfl (by kernel_rfl) (by kernel_rfl) (by kernel_rfl) (by kernel_rfl) (fun _ _ _ h => h) (Or.inl ⟨by rfl, fun w' hSw => ?_⟩) ((Below.refl _ wa).drew) ?_
      · have e0 := clater c0 hSw; have e1 := clater c1 hSw; have e2 := clater c2 hSw; have e3 := clater c3 hSw; have e4 := clater c4 hSw; have e5 := clater c5 hSw
        clear c0 c1 c2 c3 c4 c5
        go_simp
      try simp only [Act.put, List.setIfInBounds_toArray, List.set_cons_zero, List.set_cons_succ]
      refine anyG_takel (i := 4) (v := undef) [5, 7, 8, 9] rfl (by kernel_rfl) (by kernel_rfl) (by kernel_rfl) (by kernel_rfl) (fun _ _ _ h => h) (Or.inr ⟨by rfl, rfl⟩) ((Below.refl _ wa).drew) ?_
      try simp only [Act.put, List.setIfInBounds_toArray, List.set_cons_zero, List.set_cons_succ]
      refine anyG_takel (i := 5) (v := undef) [7, 8, 9] rfl (by kernel_rfl) (by kernel_rfl) (by kernel_rfl) (by kernel_rfl) (fun _ _ _ h => h) (Or.inr ⟨by rfl, rfl⟩) ((Below.refl _ wa).drew) ?_
      try simp only [Act.put, List.setIfInBounds_toArray, List.set_cons_zero, List.set_cons_succ]
      refine anyG_one (i := 6) (by kernel_rfl) ?_
      refine wpOp_no rfl (by rfl) ⟨fun _ => (Below.refl _ wa).drew, ?_⟩
      try simp only [Act.put, List.setIfInBounds_toArray, List.set_cons_zero, List.set_cons_succ]
      refine anyG_takel (i := 7) (v := undef) [8, 9] rfl (by kernel_rfl) (by kernel_rfl) (by kernel_rfl) (by kernel_rfl) (fun _ _ _ h => h) (Or.inr ⟨by rfl, rfl⟩) ((Below.refl _ wa).drew) ?_
      try simp only [Act.put, List.setIfInBounds_toArray, List.set_cons_zero, List.set_cons_succ]
      refine anyG_takel (i := 8) (v := .bool false) [9] rfl (by kernel_rfl) (by kernel_rfl) (by kernel_rfl) (by kernel_rfl) (fun _ _ _ h => h) (Or.inl ⟨by rfl, fun w' hSw => ?_⟩) ((Below.refl _ wa).drew) ?_
      · go_simp
      try simp only [Act.put, List.setIfInBounds_toArray, List.set_cons_zero, List.set_cons_succ]
      clear c0 c1 c2 c3 c4 c5
      refine anyG_one (i := 9) (by kernel_rfl) ?_
      refine wpOp_lit rfl (by rfl) fun K' hK' => ?_
      go_simp
      refine unhide hK' _ _ ⟨fun hh => absurd hh (by decide), ?_⟩
      clear hK' K'
      refine anyG_done (by kernel_rfl) ?_ _
      refine NoPanic.normal ?_
      go_wp2
      go_meet
      exact ⟨by rw [unhide HR], (unhide HB0).drew⟩
  case rest =>
    obtain ⟨rfl, HB⟩ := hcut
    go_wp2
    go_ret
    exact ⟨rfl, unhide HB⟩
end Go.Proofs.YtmjeiepljlepbacGreat
set_option linter.unusedSimpArgs false
set_option linter.unusedVariables false
set_option maxRecDepth 100000
namespace Go.Proofs.YtmjeiepljlepbacGreat
open Go.RowKit Go.Sort

theorem ent51 : Enters 121 := fun args w => by kernel_rfl
theorem ent53 : Enters 124 := fun args w => by kernel_rfl
theorem ent54 : Enters 125 := fun args w => by kernel_rfl
theorem test_const (W : World) : TestE W (.func (.func 121) #[] #[]) notConst := ⟨121, #[], rfl, ent51, fun x a c W' _ _ _ => by simpa using notconst_any x a c W'⟩
theorem test_zero (W : World) : TestE W (.func (.func 124) #[] #[]) isZeroE := ⟨124, #[], rfl, ent53, fun x a c W' _ _ _ => by simpa using iszero_any x a c W'⟩
theorem test_true (W : World) : TestE W (.func (.func 125) #[] #[]) isTrueE := ⟨125, #[], rfl, ent54, fun x a c W' _ _ _ => by simpa using istrue_any x a c W'⟩
/-- What simpler answers. -/
def SimpOk (e : Ex) (lo : Nat) (w : World) (r : Ending) (w' : World) : Prop := ∃ a2 c2, r = .returned ((simpE e).val a2 c2) ∧ ExK lo w' a2 (simpE e).args ∧ Below w.heap.size w w'
theorem exk_nil (lo : Nat) (w : World) (a : Option Addr) : ExK lo w a [] := fun _ _ => by rw [Ex.all]; trivial
set_option maxHeartbeats 1000000 in
set_option maxRecDepth 100000 in
theorem simp_all (e : Ex) (hg : goodE e) (hf : e.fin) (hl : 0 < e.args.length) (hc : e.args.any notConst = false) (a : Option Addr) (c : Nat) (lo : Nat) (w : World) (ha : Ex.all w a e.args) : Calls Tryz.prog 83 #[e.val a c] w (SimpOk e lo w) := by
  have hse : simpE e = conE (evalE [] e) := by unfold simpE; rw [hc]; simp [hl]
  obtain ⟨⟨hlen, _, _, _⟩, hfl⟩ := Ex.fin_open hf
  have HC := hide (fun (W : World) (hW : Below w.heap.size w W) => containsE_any (.func (.func 121) #[] #[]) notConst a c e.args W hlen hfl (Ex.all_later _ ha hW) (test_const W))
  have HR := hide (fun (W : World) (hW : Below w.heap.size w W) => ready_all e.size e (Nat.le_refl _) hf hg a c W (Ex.all_later _ ha hW))
  have HK := hide (fun W => constant_any (evalE [] e) W)
  have HV := hide hse
  rw [hc] at HC
  have hl2 : (0 : Int) < (e.args.length : Int) := by omega
  have HB0 : Hid (Below w.heap.size w ((w.alloc (.cells #[.int .i64 e.op, .int .i64 e.n, .int .i64 e.v.k, .int .i64 e.v.n, .string e.v.s, .slice a e.args.length c] 59)).alloc (.cells #[.int .i64 0, .int .i64 0, .int .i64 0, .int .i64 0, .string ⟨#[]⟩, .slice none 0 0] 59))) := below_alloc (below_alloc (Below.refl _ w) _) _
  have H6 : Hid (Six ((w.alloc (.cells #[.int .i64 e.op, .int .i64 e.n, .int .i64 e.v.k, .int .i64 e.v.n, .string e.v.s, .slice a e.args.length c] 59)).alloc (.cells #[.int .i64 0, .int .i64 0, .int .i64 0, .int .i64 0, .string ⟨#[]⟩, .slice none 0 0] 59)) w.heap.size e a c) := (Six.new w e a c).later (below_alloc (Below.refl _ _) _)
  have HZ : Hid (Box6 ((w.alloc (.cells #[.int .i64 e.op, .int .i64 e.n, .int .i64 e.v.k, .int .i64 e.v.n, .string e.v.s, .slice a e.args.length c] 59)).alloc (.cells #[.int .i64 0, .int .i64 0, .int .i64 0, .int .i64 0, .string ⟨#[]⟩, .slice none 0 0] 59)) (w.heap.size + 1) zeroE none 0) := by
    have h := Box6.new (w.alloc (.cells #[.int .i64 e.op, .int .i64 e.n, .int .i64 e.v.k, .int .i64 e.v.n, .string e.v.s, .slice a e.args.length c] 59)) zeroE none 0
    rw [show (w.alloc (.cells #[.int .i64 e.op, .int .i64 e.n, .int .i64 e.v.k, .int .i64 e.v.n, .string e.v.s, .slice a e.args.length c] 59)).heap.size = w.heap.size + 1 by simp [go_sem]] at h
    exact h
  rw [Ex.val_open] at HR ⊢
  clear ha hc hse
  go_enter Tryz.func83, Tryz.ntmps83
  go_wp2_with (first
    | (go_at_call 120; refine (unhide HC _ (unhide HB0)).mono ?_; rintro r w1 ⟨rfl, hb1⟩; have hB1 := below_step (unhide HB0) hb1; obtain ⟨b0, b1, b2, b3, b4, b5⟩ := (unhide H6).later hb1)
    | (go_at_call 103; refine (unhide HR _ hB1).mono ?_; rintro r w2 ⟨F, rfl, hF, hb2⟩; obtain ⟨n4, k4, rfl, e4, H4⟩ := hF; unfold Enters at e4; have HC4 := hide (H4 w2 none 0 [] (Kept.refl _ _ _) (.inl rfl) (by simp) (by simp)); clear H4)
    | (go_at_call 122; refine (unhide HK w3).mono ?_; rintro r w4 ⟨rfl, hb4⟩; rw [Ex.val_open]; obtain ⟨⟨z0, z1, z2, z3, z4, z5⟩, f0, f1, f2, f3, f4, f5⟩ := (unhide HZ).later (below_step (below_step (below_step hb1 hb2) hb3) hb4))
    | (refine (unhide HC4).mono ?_; rintro r w3 ⟨rfl, hb3⟩))
  refine bodyPost_ret (v := (conE (evalE [] e)).val none 0) (by simp [results, Tryz.results83, go_sem, Ex.val, Ex.op, Ex.n, Ex.v, Ex.args, *]) rfl ⟨none, 0, by rw [unhide HV], by rw [unhide HV]; exact exk_nil _ _ _, ?_⟩
  exact put6 (below_step (below_step (below_step hB1 hb2) hb3) hb4) (by omega) _ _ _ _ _ _
end Go.Proofs.YtmjeiepljlepbacGreat
set_option linter.unusedSimpArgs false
set_option linter.unusedVariables false
set_option maxRecDepth 100000
namespace Go.Proofs.YtmjeiepljlepbacGreat
open Go.RowKit Go.Sort

theorem exk_lo {lo : Nat} {w : World} {b off i : Nat} {l : List Ex} {x : Ex} (hK : ExK lo w (some ⟨b, off, none⟩) l) (hx : l[i]? = some x) : lo ≤ b := by
  by_cases h : lo ≤ b
  · exact h
  · exfalso
    have hlt : b < lo := by omega
    obtain ⟨b', off', e', h1⟩ := Ex.all_get (hK w (Kept.refl _ _ _)) hx
    injection e' with e'
    injection e' with e1 e2
    subst e1 e2
    obtain ⟨a1, c1, ⟨d0, _⟩, _⟩ := Ex.at_open h1
    obtain ⟨b', off', e', h2⟩ := Ex.all_get (hK (w.setCell ⟨b, off + i * 6, none⟩ (.bool true)) (Kept.of_low _ _ _ _ hlt)) hx
    injection e' with e'
    injection e' with e1 e2
    subst e1 e2
    obtain ⟨a2, c2, ⟨q0, _⟩, _⟩ := Ex.at_open h2
    have h3 : (w.setCell ⟨b, off + i * 6, none⟩ (.bool true)).cell? ⟨b, off + i * 6, none⟩ = some (.bool true) := by simp [go_sem, d0]
    rw [h3] at q0
    cases q0
/-- A part of what lies in the blocks from lo on lies there too. -/
theorem exk_child {lo : Nat} {w : World} {b off i n c' : Nat} {l : List Ex} {x : Ex} {a' : Option Addr} (hK : ExK lo w (some ⟨b, off, none⟩) l) (hx : l[i]? = some x) (hc : w.cell? ⟨b, off + i * 6 + 5, none⟩ = some (.slice a' n c')) : ExK lo w a' x.args := by
  have hlo := exk_lo hK hx
  intro W' hW
  obtain ⟨b', off', e', h1⟩ := Ex.all_get (hK W' hW) hx
  injection e' with e'
  injection e' with e1 e2
  subst e1 e2
  obtain ⟨a1, c1, ⟨_, _, _, _, _, d5⟩, h2⟩ := Ex.at_open h1
  have h3 := Kept.cell hc hW hlo (by simp)
  rw [h3] at d5
  injection d5 with d5
  injection d5 with d5
  rw [d5]
  exact h2
set_option maxHeartbeats 1000000 in
set_option maxRecDepth 100000 in
theorem simp_same (e : Ex) (hf : e.fin) (hc : e.args.any notConst = true ∨ e.args = []) (h19 : ¬ e.op = 19) (h20 : ¬ e.op = 20) (h21 : ¬ e.op = 21) (a : Option Addr) (c : Nat) (lo : Nat) (w : World) (hK : ExK lo w a e.args) : Calls Tryz.prog 83 #[e.val a c] w (SimpOk e lo w) := by
  have hse : simpE e = e := by
    have e19 : (e.op == 19) = false := by simpa using h19
    have e20 : (e.op == 20) = false := by simpa using h20
    have e21 : (e.op == 21) = false := by simpa using h21
    unfold simpE
    rw [e19, e20, e21]
    rcases hc with hc | hc
    · rw [hc]; simp
    · rw [hc]; simp
  obtain ⟨⟨hlen, _, _, _⟩, hfl⟩ := Ex.fin_open hf
  have ha := hK.now
  have HC := hide (fun (W : World) (hW : Below w.heap.size w W) => containsE_any (.func (.func 121) #[] #[]) notConst a c e.args W hlen hfl (Ex.all_later _ ha hW) (test_const W))
  have HV := hide hse
  have HK := hide hK
  have HB0 : Hid (Below w.heap.size w ((w.alloc (.cells #[.int .i64 e.op, .int .i64 e.n, .int .i64 e.v.k, .int .i64 e.v.n, .string e.v.s, .slice a e.args.length c] 59)).alloc (.cells #[.int .i64 0, .int .i64 0, .int .i64 0, .int .i64 0, .string ⟨#[]⟩, .slice none 0 0] 59))) := below_alloc (below_alloc (Below.refl _ w) _) _
  have H6 : Hid (Six ((w.alloc (.cells #[.int .i64 e.op, .int .i64 e.n, .int .i64 e.v.k, .int .i64 e.v.n, .string e.v.s, .slice a e.args.length c] 59)).alloc (.cells #[.int .i64 0, .int .i64 0, .int .i64 0, .int .i64 0, .string ⟨#[]⟩, .slice none 0 0] 59)) w.heap.size e a c) := (Six.new w e a c).later (below_alloc (Below.refl _ _) _)
  have HZ : Hid (Box6 ((w.alloc (.cells #[.int .i64 e.op, .int .i64 e.n, .int .i64 e.v.k, .int .i64 e.v.n, .string e.v.s, .slice a e.args.length c] 59)).alloc (.cells #[.int .i64 0, .int .i64 0, .int .i64 0, .int .i64 0, .string ⟨#[]⟩, .slice none 0 0] 59)) (w.heap.size + 1) zeroE none 0) := by
    have h := Box6.new (w.alloc (.cells #[.int .i64 e.op, .int .i64 e.n, .int .i64 e.v.k, .int .i64 e.v.n, .string e.v.s, .slice a e.args.length c] 59)) zeroE none 0
    rw [show (w.alloc (.cells #[.int .i64 e.op, .int .i64 e.n, .int .i64 e.v.k, .int .i64 e.v.n, .string e.v.s, .slice a e.args.length c] 59)).heap.size = w.heap.size + 1 by simp [go_sem]] at h
    exact h
  rcases hc with hc | hc
  · have hl2 : (0 : Int) < (e.args.length : Int) := by
      cases h : e.args with
      | nil => rw [h] at hc; cases hc
      | cons x l => simp
    rw [hc] at HC
    rw [Ex.val_open]
    clear ha hc hse hK
    go_enter Tryz.func83, Tryz.ntmps83
    go_wp2_with (go_at_call 120; refine (unhide HC _ (unhide HB0)).mono ?_; rintro r w1 ⟨rfl, hb1⟩; have hB1 := below_step (unhide HB0) hb1; obtain ⟨b0, b1, b2, b3, b4, b5⟩ := (unhide H6).later hb1; obtain ⟨⟨z0, z1, z2, z3, z4, z5⟩, f0, f1, f2, f3, f4, f5⟩ := (unhide HZ).later hb1)
    have hE := put6 hB1 (B := w.heap.size + 1) (by omega) (.int .i64 e.op) (.int .i64 e.n) (.int .i64 e.v.k) (.int .i64 e.v.n) (.string e.v.s) (.slice a e.args.length c)
    refine bodyPost_ret (v := e.val a c) (by simp [results, Tryz.results83, go_sem, Ex.val, *]) rfl ⟨a, c, by rw [unhide HV], by rw [unhide HV]; exact (unhide HK).on (Kept.of_below _ _ hE), hE⟩
  · have hl0 : e.args.length = 0 := by rw [hc]; rfl
    rw [Ex.val_open, hl0]
    rw [hl0] at HB0 H6 HZ
    clear ha hc hse hK HC
    go_enter Tryz.func83, Tryz.ntmps83
    go_wp2
    refine bodyPost_ret (v := e.val a c) (by simp [results, Tryz.results83, go_sem, Ex.val, *]) rfl ⟨a, c, by rw [unhide HV], by rw [unhide HV]; exact (unhide HK).on (Kept.of_below _ _ (below_alloc (below_alloc (Below.refl _ w) _) _)), below_alloc (below_alloc (Below.refl _ w) _) _⟩
end Go.Proofs.YtmjeiepljlepbacGreat
set_option linter.unusedSimpArgs false
set_option linter.unusedVariables false
set_option maxRecDepth 100000
namespace Go.Proofs.YtmjeiepljlepbacGreat
open Go.RowKit Go.Sort

mutual
theorem meas_anyR (p : Ex → Bool) : ∀ (e : Ex) (N H : Int) {c h : Int}, measE p e N H = (c, h, true) → measE allE e N H = (c, h, true)
  | .mk op n v l, N, H, c, h, he => by
    rw [measE] at he ⊢
    split at he
    · injection he with _ he; injection he with _ he; cases he
    · rename_i hc
      simp only [Bool.or_eq_true, decide_eq_true_eq, not_or, Bool.not_eq_true'] at hc
      rw [if_neg (by simp only [Bool.or_eq_true, decide_eq_true_eq, not_or, Bool.not_eq_true']; exact ⟨hc.1, by simp [allE]⟩)]
      cases hm : measL p l N H 1 0 with
      | none => rw [hm] at he; simp only at he; injection he with _ he; injection he with _ he; cases he
      | some q =>
        rw [hm] at he
        rw [measL_anyR p l N H 1 0 (by rw [hm])]
        exact he
theorem measL_anyR (p : Ex → Bool) : ∀ (l : List Ex) (N H c h : Int) {q : Int × Int}, measL p l N H c h = some q → measL allE l N H c h = some q
  | [], N, H, c, h, q, he => by rw [measL] at he ⊢; exact he
  | e :: l, N, H, c, h, q, he => by
    rw [measL] at he ⊢
    split at he
    · rename_i hok
      obtain ⟨c2, h2', ok, hm⟩ : ∃ c2 h2 ok, measE p e (N - c) (H - 1) = (c2, h2, ok) := ⟨_, _, _, rfl⟩
      rw [hm] at he hok
      simp only at he hok
      subst hok
      rw [meas_anyR p e (N - c) (H - 1) hm]
      simp only [if_true]
      exact measL_anyR p l N H _ _ he
    · cases he
end
theorem built_endsR {e : Ex} (h : builtE e = true) : (measE allE e 33554432 131072).2.2 = true := by
  obtain ⟨c, h2, ok, hm⟩ : ∃ c h2 ok, measE soundE e 400 40 = (c, h2, ok) := ⟨_, _, _, rfl⟩
  unfold builtE at h
  rw [hm] at h
  simp only at h
  subst h
  rw [meas_mono allE e 400 40 33554432 131072 (meas_anyR soundE e 400 40 hm) (by omega) (by omega)]
theorem built_copyT {e : Ex} (h : builtE e = true) : copyT e = copyE e := by unfold copyT; rw [built_endsR h]; rfl
mutual
theorem copy_eval (row : List Val) : ∀ (e : Ex), goodE e → evalE row (copyE e) = evalE row e
  | .mk op n v l, hg => by
    have hl := copy_evalL row l (good_open hg).2
    have hn := no_args hg
    rw [copyE, evalE, evalE, hl]
    cases l with
    | nil =>
      rw [evalL]
      simp only [nodeV]
      rcases hn rfl with ⟨h1, _⟩ | h2
      · have h1 : op = 1 := h1
        subst h1; rfl
      · have h2 : op = 2 := h2
        subst h2
        simp only [beq_self_eq_true, if_true]
        rw [clean_clean]
    | cons x l =>
      rw [evalL]
      cases l with
      | nil => rw [evalL]; rfl
      | cons y l =>
        rw [evalL]
        cases l with
        | nil => rw [evalL]; rfl
        | cons z l => rw [evalL]; rfl
theorem copy_evalL (row : List Val) : ∀ (l : List Ex), goodL l → evalL row (copyL l) = evalL row l
  | [], _ => by rw [copyL]
  | e :: l, hg => by
    rw [goodL] at hg
    rw [copyL, evalL, evalL, copy_eval row e hg.1, copy_evalL row l hg.2]
end
mutual
/-- The columns in an expression, as often as they stand there. -/
def colsE : Ex → List Int
  | .mk op n _ l => (if op == 1 then [n] else []) ++ colsL l
def colsL : List Ex → List Int
  | [] => []
  | e :: l => colsE e ++ colsL l
end
theorem colsE_eq (e : Ex) : colsE e = (if e.op == 1 then [e.n] else []) ++ colsL e.args := by cases e; rw [colsE]; rfl
theorem cols_mem : ∀ {l : List Ex} {x : Ex} {n : Int}, x ∈ l → n ∈ colsE x → n ∈ colsL l
  | [], _, _, h, _ => by cases h
  | e :: l, x, n, h, hn => by
    rw [colsL, List.mem_append]
    rcases List.mem_cons.1 h with rfl | h
    · exact .inl hn
    · exact .inr (cols_mem h hn)
def usesB (e : Ex) (n : Int) : Bool := (colsE e).all fun c => decide (c < n)
theorem uses_arg {e x : Ex} {i : Nat} {n : Int} (h : usesB e n = true) (hx : e.args[i]? = some x) : usesB x n = true := by
  unfold usesB at h ⊢
  rw [List.all_eq_true] at h ⊢
  intro c hc
  exact h c (by rw [colsE_eq, List.mem_append]; exact .inr (cols_mem (List.mem_of_getElem? hx) hc))
theorem uses_col {e : Ex} {n : Int} (h : usesB e n = true) (h1 : e.op = 1) : e.n < n := by
  unfold usesB at h
  rw [List.all_eq_true] at h
  have := h e.n (by rw [colsE_eq, h1]; simp)
  simpa using this
/-- What is put in for a column. -/
def putG (by_ : List Ex) (e : Ex) : Ex := if e.op == 1 then copyT (by_.getD e.n.toNat e) else e
theorem putG_col {by_ : List Ex} {x : Ex} (h : x.op = 1) : putG by_ x = copyT (by_.getD x.n.toNat x) := by unfold putG; rw [h]; rfl
theorem putG_no {by_ : List Ex} {x : Ex} (h : ¬ x.op = 1) : putG by_ x = x := by
  have e1 : (x.op == 1) = false := by simpa using h
  unfold putG
  rw [e1]
  rfl
theorem col_args {x : Ex} (hg : goodE x) (h1 : x.op = 1) : x.args = [] := by
  have hl := sound_len (good_open hg).1
  rw [h1, show arI 1 = 0 by decide] at hl
  exact List.eq_nil_of_length_eq_zero (by omega)
theorem col_nat {x : Ex} (hg : goodE x) (h1 : x.op = 1) : 0 ≤ x.n := by
  rcases no_args hg (col_args hg h1) with ⟨_, h⟩ | h
  · exact h
  · rw [h1] at h; cases h
theorem getD_at {l : List Ex} {n : Nat} {d : Ex} (h : n < l.length) : l[n]? = some (l.getD n d) := by
  rw [List.getD_eq_getElem?_getD, List.getElem?_eq_getElem h]
  rfl
/-- With others put in: worked out as they are first, and then it. -/
theorem put_eval (row : List Val) (by_ : List Ex) (hb : ∀ x ∈ by_, builtE x = true) : ∀ e, goodE e → usesB e by_.length = true → evalE row (madeE (putG by_) e) = evalE (by_.map (evalE row)) e := fold_ind _ fun e hg ih hu => by
  rw [madeE_eq]
  by_cases h1 : e.op = 1
  · have hn := col_nat hg h1
    have hlt := uses_col hu h1
    have ho : (nodeG (putG by_) e).op = 1 := h1
    have hnn : (nodeG (putG by_) e).n = e.n := by show (if e.op == 1 then e.n else 0) = e.n; rw [h1]; rfl
    have hg2 : by_[e.n.toNat]? = some (by_.getD e.n.toNat (nodeG (putG by_) e)) := getD_at (by omega)
    have hp : putG by_ (nodeG (putG by_) e) = copyT (by_.getD e.n.toNat (nodeG (putG by_) e)) := by rw [putG_col ho, hnn]
    rw [hp]
    generalize by_.getD e.n.toNat (nodeG (putG by_) e) = x at *
    have hx := hb x (List.mem_of_getElem? hg2)
    rw [built_copyT hx, copy_eval row x (built_good hx), evalE_eq _ e, col_args hg h1, evalL, h1]
    have hx2 : (by_.map (evalE row)).getD e.n.toNat .null = evalE row x := by
      rw [List.getD_eq_getElem?_getD, List.getElem?_map, hg2]
      rfl
    show _ = if decide (((by_.map (evalE row)).length : Int) ≤ e.n) then Val.null else cleanV ((by_.map (evalE row)).getD e.n.toNat .null)
    rw [hx2, List.length_map, if_neg (by simp; omega), (eval_clean row x).1]
  · have e1 : (e.op == 1) = false := by simpa using h1
    have hp : putG by_ (nodeG (putG by_) e) = nodeG (putG by_) e := putG_no (show ¬ e.op = 1 from h1)
    rw [hp, evalE_eq, evalE_eq _ e]
    show nodeV e.op (if e.op == 1 then e.n else 0) (if e.op == 2 then cleanV e.v else .null) row (evalL row (e.args.map (madeE (putG by_)))) = _
    have hl : evalL row (e.args.map (madeE (putG by_))) = evalL (by_.map (evalE row)) e.args := by
      have key : ∀ (l : List Ex), (∀ x ∈ l, evalE row (madeE (putG by_) x) = evalE (by_.map (evalE row)) x) → evalL row (l.map (madeE (putG by_))) = evalL (by_.map (evalE row)) l := by
        intro l
        induction l with
        | nil => intro _; rw [List.map_nil, evalL, evalL]
        | cons x l ihl => intro h; rw [List.map_cons, evalL, evalL, h x (by simp), ihl fun y hy => h y (by simp [hy])]
      refine key e.args fun x hx => ?_
      obtain ⟨i, hi⟩ := List.getElem?_of_mem hx
      exact (ih x hx).2 (uses_arg hu hi)
    rw [hl]
    cases ha : e.args with
    | nil =>
      rw [evalL]
      rcases no_args hg ha with ⟨h, _⟩ | h2
      · exact absurd h h1
      · simp only [nodeV]
        rw [h2]; simp [clean_clean]
    | cons x l =>
      rw [evalL]
      cases l with
      | nil => rw [evalL]; rfl
      | cons y l =>
        rw [evalL]
        cases l with
        | nil => rw [evalL]; rfl
        | cons z l => rw [evalL]; rfl
/-- Nothing in it is too great. -/
theorem put_fin (by_ : List Ex) (hb : ∀ x ∈ by_, builtE x = true) (hbf : Ex.fins by_) : ∀ e, goodE e → usesB e by_.length = true → e.fin → (madeE (putG by_) e).fin := fold_ind _ fun e hg ih hu hf => by
  rw [madeE_eq]
  by_cases h1 : e.op = 1
  · have hn := col_nat hg h1
    have hlt := uses_col hu h1
    have ho : (nodeG (putG by_) e).op = 1 := h1
    have hnn : (nodeG (putG by_) e).n = e.n := by show (if e.op == 1 then e.n else 0) = e.n; rw [h1]; rfl
    have hg2 : by_[e.n.toNat]? = some (by_.getD e.n.toNat (nodeG (putG by_) e)) := getD_at (by omega)
    have hp : putG by_ (nodeG (putG by_) e) = copyT (by_.getD e.n.toNat (nodeG (putG by_) e)) := by rw [putG_col ho, hnn]
    rw [hp]
    exact copyT_fin2 (Ex.fins_mem hbf (List.mem_of_getElem? hg2))
  · have e1 : (e.op == 1) = false := by simpa using h1
    have hp : putG by_ (nodeG (putG by_) e) = nodeG (putG by_) e := putG_no (show ¬ e.op = 1 from h1)
    rw [hp]
    obtain ⟨⟨k1, k2, k3, k4⟩, k5⟩ := Ex.fin_open hf
    refine fin_mk _ ⟨?_, ?_, ?_, ?_⟩ (Ex.fins_of _ fun x hx => ?_)
    · show (e.args.map (madeE (putG by_))).length ≤ _
      rw [List.length_map]; exact k1
    · show (if e.op == 2 then cleanV e.v else .null).s.size ≤ _
      split
      · exact Nat.le_trans (clean_size _) k2
      · exact Nat.zero_le _
    · show In64 (if e.op == 2 then cleanV e.v else .null).n
      split
      · exact clean_in _ k3
      · exact in64_zero
    · show In64 (if e.op == 1 then e.n else 0)
      split
      · exact k4
      · exact in64_zero
    · obtain ⟨y, hy, rfl⟩ := List.mem_map.1 (show x ∈ e.args.map (madeE (putG by_)) from hx)
      obtain ⟨i, hi⟩ := List.getElem?_of_mem hy
      exact (ih y hy).2 (uses_arg hu hi) (Ex.fins_mem k5 hy)
end Go.Proofs.YtmjeiepljlepbacGreat
