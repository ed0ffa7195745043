import Derived.Test.YtmagpdblacgneaaGreatPaB
import Derived.Test.YtmagpdblacgneaaGreatFoB
set_option linter.unusedSimpArgs false
set_option linter.unusedVariables false
set_option maxRecDepth 100000
namespace Go.Proofs.YtmagpdblacgneaaGreat
open Go.RowKit Go.Sort

theorem notconst_any (e : Ex) (a : Option Addr) (c : Nat) (w : World) : Calls Tryz.prog 44 #[e.val a c] w fun r w' => r = .returned (.bool (notConst e)) ∧ Below w.heap.size w w' := by
  rw [Ex.val_open]
  go_enter Tryz.func44, Tryz.ntmps44
  go_wp2
  go_ret
  exact ⟨rfl, by first | exact Below.refl _ _ | exact below_alloc (Below.refl _ _) _⟩
theorem istrue_any (e : Ex) (a : Option Addr) (c : Nat) (w : World) : Calls Tryz.prog 48 #[e.val a c] w fun r w' => r = .returned (.bool (isTrueE e)) ∧ Below w.heap.size w w' := by
  have HT := hide (fun W => true_any e.v W)
  have HB0 := hide (below_alloc (Below.refl _ w) (.cells #[.int .i64 e.op, .int .i64 e.n, .int .i64 e.v.k, .int .i64 e.v.n, .string e.v.s, .slice a e.args.length c] 26))
  rw [Val.open_] at HT
  unfold isTrueE
  by_cases h2 : e.op = 2
  · rw [Ex.val_open, h2]
    rw [h2] at HB0
    generalize trueB e.v = t at *
    go_enter Tryz.func48, Tryz.ntmps48
    go_wp2_with (go_at_call 51; refine (unhide HT _).mono ?_; rintro r w1 ⟨rfl, hb1⟩)
    go_ret
    exact ⟨by simp, below_step (unhide HB0) hb1⟩
  · have e2 : (e.op == 2) = false := by simpa using h2
    rw [Ex.val_open]
    go_enter Tryz.func48, Tryz.ntmps48
    go_wp2
    go_ret
    exact ⟨by rw [e2]; rfl, unhide HB0⟩
theorem expnum0 (n : Int) (w : World) : Calls Tryz.prog 49 #[.int .i64 n] w fun e w' => e = .returned (Val.num n).v ∧ Below w.heap.size w w' := by
  go_enter Tryz.func49, Tryz.ntmps49
  go_wp2
  refine bodyPost_ret (v := (Val.num n).v) (by simp [results, Tryz.results49, go_sem, Val.v, Val.num]) rfl ⟨rfl, below_alloc (Below.refl _ _) _⟩
theorem bytes_inj (a b : ByteArray) : a.toList = b.toList ↔ a = b := by
  rw [ByteArray.toList_eq, ByteArray.toList_eq]
  exact ⟨fun h => ByteArray.ext (Array.toList_inj.1 h), fun h => by rw [h]⟩
theorem eqV (x y : Val) (w : World) : (binOp .eql 23 (.agg #[.int .i64 x.k, .int .i64 x.n, .string x.s]) (.agg #[.int .i64 y.k, .int .i64 y.n, .string y.s])).run Tryz.prog w = .ok (.bool (decide (x.k = y.k) && (decide (x.n = y.n) && decide (x.s = y.s)))) w := by
  have u2 := Tryz.underlying2
  have u3 := Tryz.underlying3
  have u9 := Tryz.underlying9
  have a2 := Tryz.isAgg2
  have a3 := Tryz.isAgg3
  have a9 := Tryz.isAgg9
  have z2 := Tryz.sizeOf2
  have z3 := Tryz.sizeOf3
  have z9 := Tryz.sizeOf9
  have hS : Tryz.prog.underlying 23 = some (.struct (Tryz.prog.fieldsOf 23)) := by kernel_rfl
  have hp : Tryz.prog.stoodInHeld 23 = false := by kernel_rfl
  rw [run_eql_struct, show (10000 : Nat) = 9999 + 1 from rfl, run_equalIn_agg w 9999 23 _ _ hS hp]
  simp only [Program.fieldsOf, Tryz.underlying23]
  go_simp
  by_cases h1 : x.k = y.k <;> by_cases h2 : x.n = y.n <;> by_cases h3 : x.s = y.s <;> simp [h1, h2, h3, bytes_inj]
theorem wpOp_no {P : Program} {ops : Array Oper} {Q : Exit → Act → World → Prop} {i : Nat} {o : Oper} {r : List Oper} {a : Act} {w : World} {K : Act → World → Prop} (hi : ops.toList.drop i = o :: r) (hw : Region.wanted o (yielded ops a.tmps) = false)
    (h : K (a.put o.dst undef) w) : wpOp P ops Q i K a w := by
  unfold wpOp
  rw [drop_at hi]
  simp only [hw, Bool.false_eq_true, if_false]
  exact h
set_option maxHeartbeats 1000000 in
set_option maxRecDepth 100000 in
theorem iszero_any (e : Ex) (a : Option Addr) (c : Nat) (w : World) : Calls Tryz.prog 47 #[e.val a c] w fun r w' => r = .returned (.bool (isZeroE e)) ∧ Below w.heap.size w w' := by
  have HT := hide (fun W => expnum0 0 W)
  have HB0 := hide (below_alloc (Below.refl _ w) (.cells #[.int .i64 e.op, .int .i64 e.n, .int .i64 e.v.k, .int .i64 e.v.n, .string e.v.s, .slice a e.args.length c] 26))
  have H6 : Hid (Six (w.alloc (.cells #[.int .i64 e.op, .int .i64 e.n, .int .i64 e.v.k, .int .i64 e.v.n, .string e.v.s, .slice a e.args.length c] 26)) w.heap.size e a c) := Six.new w e a c
  rw [Ex.val_open]
  have HX : Hid (isZeroE e = ((e.op == 2) && (decide (e.v.k = 1) && (decide (e.v.n = 0) && decide (e.v.s = ⟨#[]⟩))))) := rfl
  obtain ⟨R, hR⟩ : ∃ R, R = isZeroE e := ⟨_, rfl⟩
  rw [← hR] at HX ⊢
  obtain ⟨op, hop⟩ : ∃ x, x = e.op := ⟨_, rfl⟩
  obtain ⟨n, hn⟩ : ∃ x, x = e.n := ⟨_, rfl⟩
  obtain ⟨vk, hvk⟩ : ∃ x, x = e.v.k := ⟨_, rfl⟩
  obtain ⟨vn, hvn⟩ : ∃ x, x = e.v.n := ⟨_, rfl⟩
  obtain ⟨vs, hvs⟩ : ∃ x, x = e.v.s := ⟨_, rfl⟩
  obtain ⟨m, hm⟩ : ∃ x, x = e.args.length := ⟨_, rfl⟩
  unfold Six at H6
  rw [← hop, ← hn, ← hvk, ← hvn, ← hvs, ← hm] at HB0 H6 ⊢
  rw [← hop, ← hvk, ← hvn, ← hvs] at HX
  clear hR hop hn hvk hvn hvs hm
  go_enter Tryz.func47, Tryz.ntmps47
  go_upto_region 1 with fail
  obtain ⟨c0, c1, c2, c3, c4, c5⟩ := unhide H6
  obtain ⟨wa, hwa⟩ : ∃ wa, wa = w.alloc (.cells #[.int .i64 op, .int .i64 n, .int .i64 vk, .int .i64 vn, .string vs, .slice a m c] 26) := ⟨_, rfl⟩
  rw [← hwa] at HB0 c0 c1 c2 c3 c4 c5 ⊢
  clear hwa H6
  go_cut [2] (fun v wx => v = .bool R ∧ Hid (Below w.heap.size w wx))
  case first =>
    refine wp_region_noPanic ?_
    refine wp_region_G (S := fun w' : World => Below wa.heap.size wa w') (k := 9) (by kernel_rfl) ?_
    by_cases h2 : op = 2
    · subst h2
      refine anyG_takel (i := 0) (v := (.pointer (some ⟨w.heap.size, 0, none⟩))) [1, 2, 3, 8, 9] rfl (by kernel_rfl) (by kernel_rfl) (by kernel_rfl) (by kernel_rfl) (fun _ _ _ h => h) (Or.inl ⟨by rfl, fun w' hSw => ?_⟩) ((Below.refl _ wa).drew) ?_
      · have e0 := clater c0 hSw; have e1 := clater c1 hSw; have e2 := clater c2 hSw; have e3 := clater c3 hSw; have e4 := clater c4 hSw; have e5 := clater c5 hSw
        clear c0 c1 c2 c3 c4 c5
        go_simp
      try simp only [Act.put, List.setIfInBounds_toArray, List.set_cons_zero, List.set_cons_succ]
      refine anyG_takel (i := 1) (v := (.int .i64 2)) [2, 3, 8, 9] rfl (by kernel_rfl) (by kernel_rfl) (by kernel_rfl) (by kernel_rfl) (fun _ _ _ h => h) (Or.inl ⟨by rfl, fun w' hSw => ?_⟩) ((Below.refl _ wa).drew) ?_
      · have e0 := clater c0 hSw; have e1 := clater c1 hSw; have e2 := clater c2 hSw; have e3 := clater c3 hSw; have e4 := clater c4 hSw; have e5 := clater c5 hSw
        clear c0 c1 c2 c3 c4 c5
        go_simp
      try simp only [Act.put, List.setIfInBounds_toArray, List.set_cons_zero, List.set_cons_succ]
      refine anyG_takel (i := 2) (v := (.bool true)) [3, 8, 9] rfl (by kernel_rfl) (by kernel_rfl) (by kernel_rfl) (by kernel_rfl) (fun _ _ _ h => h) (Or.inl ⟨by rfl, fun w' hSw => ?_⟩) ((Below.refl _ wa).drew) ?_
      · have e0 := clater c0 hSw; have e1 := clater c1 hSw; have e2 := clater c2 hSw; have e3 := clater c3 hSw; have e4 := clater c4 hSw; have e5 := clater c5 hSw
        clear c0 c1 c2 c3 c4 c5
        go_simp
      try simp only [Act.put, List.setIfInBounds_toArray, List.set_cons_zero, List.set_cons_succ]
      refine anyG_takel (i := 3) (v := (.bool true)) [8, 9] rfl (by kernel_rfl) (by kernel_rfl) (by kernel_rfl) (by kernel_rfl) (fun _ _ _ h => h) (Or.inl ⟨by rfl, fun w' hSw => ?_⟩) ((Below.refl _ wa).drew) ?_
      · have e0 := clater c0 hSw; have e1 := clater c1 hSw; have e2 := clater c2 hSw; have e3 := clater c3 hSw; have e4 := clater c4 hSw; have e5 := clater c5 hSw
        clear c0 c1 c2 c3 c4 c5
        go_simp
      try simp only [Act.put, List.setIfInBounds_toArray, List.set_cons_zero, List.set_cons_succ]
      refine anyG_takel (i := 4) (v := (.pointer (some ⟨w.heap.size, 2, none⟩))) [5, 7, 8, 9] rfl (by kernel_rfl) (by kernel_rfl) (by kernel_rfl) (by kernel_rfl) (fun _ _ _ h => h) (Or.inl ⟨by rfl, fun w' hSw => ?_⟩) ((Below.refl _ wa).drew) ?_
      · have e0 := clater c0 hSw; have e1 := clater c1 hSw; have e2 := clater c2 hSw; have e3 := clater c3 hSw; have e4 := clater c4 hSw; have e5 := clater c5 hSw
        clear c0 c1 c2 c3 c4 c5
        go_simp
      try simp only [Act.put, List.setIfInBounds_toArray, List.set_cons_zero, List.set_cons_succ]
      refine anyG_takel (i := 5) (v := (.agg #[.int .i64 vk, .int .i64 vn, .string vs])) [7, 8, 9] rfl (by kernel_rfl) (by kernel_rfl) (by kernel_rfl) (by kernel_rfl) (fun _ _ _ h => h) (Or.inl ⟨by rfl, fun w' hSw => ?_⟩) ((Below.refl _ wa).drew) ?_
      · have e0 := clater c0 hSw; have e1 := clater c1 hSw; have e2 := clater c2 hSw; have e3 := clater c3 hSw; have e4 := clater c4 hSw; have e5 := clater c5 hSw
        clear c0 c1 c2 c3 c4 c5
        go_simp
      try simp only [Act.put, List.setIfInBounds_toArray, List.set_cons_zero, List.set_cons_succ]
      clear c0 c1 c2 c3 c4 c5
      refine anyG_one (i := 6) (by kernel_rfl) ?_
      refine wpOp_lit rfl (by rfl) fun K' hK' => ?_
      go_simp
      refine (unhide HT _).mono ?_
      rintro r w1 ⟨rfl, hb1⟩
      go_simp
      refine unhide hK' _ _ ⟨fun _ => below_step ((Below.refl _ wa).drew) hb1, ?_⟩
      clear hK' K'
      refine anyG_takel (i := 7) (v := .bool R) [8, 9] rfl (by kernel_rfl) (by kernel_rfl) (by kernel_rfl) (by kernel_rfl) (fun _ _ _ h => h) (Or.inl ⟨by rfl, fun w' hSw => ?_⟩) (below_step ((Below.refl _ wa).drew) hb1) ?_
      · have hR : R = (decide (vk = 1) && (decide (vn = 0) && decide (vs = ⟨#[]⟩))) := by rw [unhide HX]; rfl
        rw [Val.open_]
        have hq := eqV ⟨vk, vn, vs⟩ (.num 0) w'
        simp only [Val.num] at hq
        have hg : ∀ W, (eqGuard .eql 23 (.tmp 8) (.tmp 9) (.agg #[.int .i64 vk, .int .i64 vn, .string vs]) (.agg #[.int .i64 1, .int .i64 0, .string ⟨#[]⟩])).run Tryz.prog W = .ok () W := fun W => run_eqGuard_agg W .eql 23 (.tmp 8) (.tmp 9) _ _ (by kernel_rfl)
        rw [hR]
        clear HX HT
        unfold execOp
        simp only [Sem.run_bind]
        erw [hg w']
        simp only [Result.andThen_ok]
        erw [hq]
        simp only [Result.andThen_ok, Sem.run_pure]
        rfl
      try simp only [Act.put, List.setIfInBounds_toArray, List.set_cons_zero, List.set_cons_succ]
      refine anyG_takel (i := 8) (v := .bool R) [9] rfl (by kernel_rfl) (by kernel_rfl) (by kernel_rfl) (by kernel_rfl) (fun _ _ _ h => h) (Or.inl ⟨by rfl, fun w' hSw => ?_⟩) (below_step ((Below.refl _ wa).drew) hb1) ?_
      · go_simp
      try simp only [Act.put, List.setIfInBounds_toArray, List.set_cons_zero, List.set_cons_succ]
      refine anyG_one (i := 9) (by kernel_rfl) ?_
      refine wpOp_lit rfl (by rfl) fun K' hK' => ?_
      go_simp
      refine unhide hK' _ _ ⟨fun hh => absurd hh (by decide), ?_⟩
      clear hK' K'
      refine anyG_done (by kernel_rfl) ?_ _
      refine NoPanic.normal ?_
      go_wp2
      go_meet
      exact ⟨rfl, below_step (unhide HB0).drew hb1⟩
    · have HR : Hid (R = false) := by show R = false; rw [unhide HX]; simp [h2]
      refine anyG_takel (i := 0) (v := (.pointer (some ⟨w.heap.size, 0, none⟩))) [1, 2, 3, 8, 9] rfl (by kernel_rfl) (by kernel_rfl) (by kernel_rfl) (by kernel_rfl) (fun _ _ _ h => h) (Or.inl ⟨by rfl, fun w' hSw => ?_⟩) ((Below.refl _ wa).drew) ?_
      · have e0 := clater c0 hSw; have e1 := clater c1 hSw; have e2 := clater c2 hSw; have e3 := clater c3 hSw; have e4 := clater c4 hSw; have e5 := clater c5 hSw
        clear c0 c1 c2 c3 c4 c5
        go_simp
      try simp only [Act.put, List.setIfInBounds_toArray, List.set_cons_zero, List.set_cons_succ]
      refine anyG_takel (i := 1) (v := (.int .i64 op)) [2, 3, 8, 9] rfl (by kernel_rfl) (by kernel_rfl) (by kernel_rfl) (by kernel_rfl) (fun _ _ _ h => h) (Or.inl ⟨by rfl, fun w' hSw => ?_⟩) ((Below.refl _ wa).drew) ?_
      · have e0 := clater c0 hSw; have e1 := clater c1 hSw; have e2 := clater c2 hSw; have e3 := clater c3 hSw; have e4 := clater c4 hSw; have e5 := clater c5 hSw
        clear c0 c1 c2 c3 c4 c5
        go_simp
      try simp only [Act.put, List.setIfInBounds_toArray, List.set_cons_zero, List.set_cons_succ]
      refine anyG_takel (i := 2) (v := (.bool false)) [3, 8, 9] rfl (by kernel_rfl) (by kernel_rfl) (by kernel_rfl) (by kernel_rfl) (fun _ _ _ h => h) (Or.inl ⟨by rfl, fun w' hSw => ?_⟩) ((Below.refl _ wa).drew) ?_
      · have e0 := clater c0 hSw; have e1 := clater c1 hSw; have e2 := clater c2 hSw; have e3 := clater c3 hSw; have e4 := clater c4 hSw; have e5 := clater c5 hSw
        clear c0 c1 c2 c3 c4 c5
        go_simp
      try simp only [Act.put, List.setIfInBounds_toArray, List.set_cons_zero, List.set_cons_succ]
      refine anyG_takel (i := 3) (v := (.bool false)) [8, 9] rfl (by kernel_rfl) (by kernel_rfl) (by kernel_rfl) (by kernel_rfl) (fun _ _ _ h => h) (Or.inl ⟨by rfl, fun w' hSw => ?_⟩) ((Below.refl _ wa).drew) ?_
      · have e0 := clater c0 hSw; have e1 := clater c1 hSw; have e2 := clater c2 hSw; have e3 := clater c3 hSw; have e4 := clater c4 hSw; have e5 := clater c5 hSw
        clear c0 c1 c2 c3 c4 c5
        go_simp
      try simp only [Act.put, List.setIfInBounds_toArray, List.set_cons_zero, List.set_cons_succ]
      refine anyG_takel (i := 4) (v := undef) [5, 7, 8, 9] rfl (by kernel_rfl) (by kernel_rfl) (by kernel_rfl) (by kernel_rfl) (fun _ _ _ h => h) (Or.inr ⟨by rfl, rfl⟩) ((Below.refl _ wa).drew) ?_
      try simp only [Act.put, List.setIfInBounds_toArray, List.set_cons_zero, List.set_cons_succ]
      refine anyG_takel (i := 5) (v := undef) [7, 8, 9] rfl (by kernel_rfl) (by kernel_rfl) (by kernel_rfl) (by kernel_rfl) (fun _ _ _ h => h) (Or.inr ⟨by rfl, rfl⟩) ((Below.refl _ wa).drew) ?_
      try simp only [Act.put, List.setIfInBounds_toArray, List.set_cons_zero, List.set_cons_succ]
      refine anyG_one (i := 6) (by kernel_rfl) ?_
      refine wpOp_no rfl (by rfl) ⟨fun _ => (Below.refl _ wa).drew, ?_⟩
      try simp only [Act.put, List.setIfInBounds_toArray, List.set_cons_zero, List.set_cons_succ]
      refine anyG_takel (i := 7) (v := undef) [8, 9] rfl (by kernel_rfl) (by kernel_rfl) (by kernel_rfl) (by kernel_rfl) (fun _ _ _ h => h) (Or.inr ⟨by rfl, rfl⟩) ((Below.refl _ wa).drew) ?_
      try simp only [Act.put, List.setIfInBounds_toArray, List.set_cons_zero, List.set_cons_succ]
      refine anyG_takel (i := 8) (v := .bool false) [9] rfl (by kernel_rfl) (by kernel_rfl) (by kernel_rfl) (by kernel_rfl) (fun _ _ _ h => h) (Or.inl ⟨by rfl, fun w' hSw => ?_⟩) ((Below.refl _ wa).drew) ?_
      · go_simp
      try simp only [Act.put, List.setIfInBounds_toArray, List.set_cons_zero, List.set_cons_succ]
      clear c0 c1 c2 c3 c4 c5
      refine anyG_one (i := 9) (by kernel_rfl) ?_
      refine wpOp_lit rfl (by rfl) fun K' hK' => ?_
      go_simp
      refine unhide hK' _ _ ⟨fun hh => absurd hh (by decide), ?_⟩
      clear hK' K'
      refine anyG_done (by kernel_rfl) ?_ _
      refine NoPanic.normal ?_
      go_wp2
      go_meet
      exact ⟨by rw [unhide HR], (unhide HB0).drew⟩
  case rest =>
    obtain ⟨rfl, HB⟩ := hcut
    go_wp2
    go_ret
    exact ⟨rfl, unhide HB⟩
end Go.Proofs.YtmagpdblacgneaaGreat
set_option linter.unusedSimpArgs false
set_option linter.unusedVariables false
set_option maxRecDepth 100000
namespace Go.Proofs.YtmagpdblacgneaaGreat
open Go.RowKit Go.Sort

theorem ent51 : Enters 44 := fun args w => by kernel_rfl
theorem ent53 : Enters 47 := fun args w => by kernel_rfl
theorem ent54 : Enters 48 := fun args w => by kernel_rfl
theorem test_const (W : World) : TestE W (.func (.func 44) #[] #[]) notConst := ⟨44, #[], rfl, ent51, fun x a c W' _ _ _ => by simpa using notconst_any x a c W'⟩
theorem test_zero (W : World) : TestE W (.func (.func 47) #[] #[]) isZeroE := ⟨47, #[], rfl, ent53, fun x a c W' _ _ _ => by simpa using iszero_any x a c W'⟩
theorem test_true (W : World) : TestE W (.func (.func 48) #[] #[]) isTrueE := ⟨48, #[], rfl, ent54, fun x a c W' _ _ _ => by simpa using istrue_any x a c W'⟩
/-- What simpler answers. -/
def SimpOk (e : Ex) (lo : Nat) (w : World) (r : Ending) (w' : World) : Prop := ∃ a2 c2, r = .returned ((simpE e).val a2 c2) ∧ ExK lo w' a2 c2 (simpE e).args ∧ Below w.heap.size w w'
theorem exk_nil (lo : Nat) (w : World) (_u : Unit) : ExK lo w none 0 [] := ExK.nil lo w
set_option maxHeartbeats 1000000 in
set_option maxRecDepth 100000 in
theorem simp_all (e : Ex) (hg : goodE e) (hf : e.fin) (hl : 0 < e.args.length) (hc : e.args.any notConst = false) (a : Option Addr) (c : Nat) (lo : Nat) (w : World) (ha : Ex.all w a e.args) : Calls Tryz.prog 24 #[e.val a c] w (SimpOk e lo w) := by
  have hse : simpE e = conE (evalE [] e) := by unfold simpE; rw [hc]; simp [hl]
  obtain ⟨⟨hlen, _, _, _⟩, hfl⟩ := Ex.fin_open hf
  have HC := hide (fun (W : World) (hW : Below w.heap.size w W) => containsE_any (.func (.func 44) #[] #[]) notConst a c e.args W hlen hfl (Ex.all_later _ ha hW) (test_const W))
  have HR := hide (fun (W : World) (hW : Below w.heap.size w W) => ready_all e.size e (Nat.le_refl _) hf hg a c W (Ex.all_later _ ha hW))
  have HK := hide (fun W => constant_any (evalE [] e) W)
  have HV := hide hse
  rw [hc] at HC
  have hl2 : (0 : Int) < (e.args.length : Int) := by omega
  have HB0 : Hid (Below w.heap.size w ((w.alloc (.cells #[.int .i64 e.op, .int .i64 e.n, .int .i64 e.v.k, .int .i64 e.v.n, .string e.v.s, .slice a e.args.length c] 26)).alloc (.cells #[.int .i64 0, .int .i64 0, .int .i64 0, .int .i64 0, .string ⟨#[]⟩, .slice none 0 0] 26))) := below_alloc (below_alloc (Below.refl _ w) _) _
  have H6 : Hid (Six ((w.alloc (.cells #[.int .i64 e.op, .int .i64 e.n, .int .i64 e.v.k, .int .i64 e.v.n, .string e.v.s, .slice a e.args.length c] 26)).alloc (.cells #[.int .i64 0, .int .i64 0, .int .i64 0, .int .i64 0, .string ⟨#[]⟩, .slice none 0 0] 26)) w.heap.size e a c) := (Six.new w e a c).later (below_alloc (Below.refl _ _) _)
  have HZ : Hid (Box6 ((w.alloc (.cells #[.int .i64 e.op, .int .i64 e.n, .int .i64 e.v.k, .int .i64 e.v.n, .string e.v.s, .slice a e.args.length c] 26)).alloc (.cells #[.int .i64 0, .int .i64 0, .int .i64 0, .int .i64 0, .string ⟨#[]⟩, .slice none 0 0] 26)) (w.heap.size + 1) zeroE none 0) := by
    have h := Box6.new (w.alloc (.cells #[.int .i64 e.op, .int .i64 e.n, .int .i64 e.v.k, .int .i64 e.v.n, .string e.v.s, .slice a e.args.length c] 26)) zeroE none 0
    rw [show (w.alloc (.cells #[.int .i64 e.op, .int .i64 e.n, .int .i64 e.v.k, .int .i64 e.v.n, .string e.v.s, .slice a e.args.length c] 26)).heap.size = w.heap.size + 1 by simp [go_sem]] at h
    exact h
  rw [Ex.val_open] at HR ⊢
  clear ha hc hse
  go_enter Tryz.func24, Tryz.ntmps24
  go_wp2_with (first
    | (go_at_call 26; refine (unhide HC _ (unhide HB0)).mono ?_; rintro r w1 ⟨rfl, hb1⟩; have hB1 := below_step (unhide HB0) hb1; obtain ⟨b0, b1, b2, b3, b4, b5⟩ := (unhide H6).later hb1)
    | (go_at_call 45; refine (unhide HR _ hB1).mono ?_; rintro r w2 ⟨F, rfl, hF, hb2⟩; obtain ⟨n4, k4, rfl, e4, H4⟩ := hF; unfold Enters at e4; have HC4 := hide (H4 w2 none 0 [] (Kept.refl _ _ _) (.inl rfl) (by simp) (by simp)); clear H4)
    | (go_at_call 25; refine (unhide HK w3).mono ?_; rintro r w4 ⟨rfl, hb4⟩; rw [Ex.val_open]; obtain ⟨⟨z0, z1, z2, z3, z4, z5⟩, f0, f1, f2, f3, f4, f5⟩ := (unhide HZ).later (below_step (below_step (below_step hb1 hb2) hb3) hb4))
    | (refine (unhide HC4).mono ?_; rintro r w3 ⟨rfl, hb3⟩))
  refine bodyPost_ret (v := (conE (evalE [] e)).val none 0) (by simp [results, Tryz.results24, go_sem, Ex.val, Ex.op, Ex.n, Ex.v, Ex.args, *]) rfl ⟨none, 0, by rw [unhide HV], by rw [unhide HV]; exact exk_nil _ _ (), ?_⟩
  exact put6 (below_step (below_step (below_step hB1 hb2) hb3) hb4) (by omega) _ _ _ _ _ _
end Go.Proofs.YtmagpdblacgneaaGreat
set_option linter.unusedSimpArgs false
set_option linter.unusedVariables false
set_option maxRecDepth 100000
namespace Go.Proofs.YtmagpdblacgneaaGreat
open Go.RowKit Go.Sort

/-- A part of what lies in the blocks from lo on lies there too. -/
theorem exk_child {lo : Nat} {w : World} {b off i n c c' : Nat} {l : List Ex} {x : Ex} {a' : Option Addr} (hK : ExK lo w (some ⟨b, off, none⟩) c l) (hx : l[i]? = some x) (hc : w.cell? ⟨b, off + i * 6 + 5, none⟩ = some (.slice a' n c')) : ExK lo w a' c' x.args := by
  obtain ⟨F, hO, hF⟩ := hK
  generalize ha : some (⟨b, off, none⟩ : Addr) = a at hO
  cases hO with
  | nil F => cases ha
  | @row g c L K F h hch hK hd hg =>
    injection ha with ha
    injection ha with e1 e2
    subst e1 e2
    rw [List.getElem?_map] at hx
    cases hq : L[i]? with
    | none => rw [hq] at hx; cases hx
    | some q =>
      rw [hq] at hx
      simp only [Option.map_some, Option.some.injEq] at hx
      subst hx
      obtain ⟨⟨_, _, _, _, _, d5⟩, _⟩ := h.facts hq
      rw [Nat.zero_add] at hc
      rw [hc] at d5
      injection d5 with d5
      injection d5 with d5 _ d7
      subst d5 d7
      exact ⟨K i, hch i q hq, fun b hb => hF b (hK i q b hq hb).2⟩
set_option maxHeartbeats 1000000 in
set_option maxRecDepth 100000 in
theorem simp_same (e : Ex) (hf : e.fin) (hc : e.args.any notConst = true ∨ e.args = []) (h19 : ¬ e.op = 19) (h20 : ¬ e.op = 20) (h21 : ¬ e.op = 21) (a : Option Addr) (c : Nat) (lo : Nat) (w : World) (hK : ExK lo w a c e.args) : Calls Tryz.prog 24 #[e.val a c] w (SimpOk e lo w) := by
  have hse : simpE e = e := by
    have e19 : (e.op == 19) = false := by simpa using h19
    have e20 : (e.op == 20) = false := by simpa using h20
    have e21 : (e.op == 21) = false := by simpa using h21
    unfold simpE
    rw [e19, e20, e21]
    rcases hc with hc | hc
    · rw [hc]; simp
    · rw [hc]; simp
  obtain ⟨⟨hlen, _, _, _⟩, hfl⟩ := Ex.fin_open hf
  have ha := hK.now
  have HC := hide (fun (W : World) (hW : Below w.heap.size w W) => containsE_any (.func (.func 44) #[] #[]) notConst a c e.args W hlen hfl (Ex.all_later _ ha hW) (test_const W))
  have HV := hide hse
  have HK := hide hK
  have HB0 : Hid (Below w.heap.size w ((w.alloc (.cells #[.int .i64 e.op, .int .i64 e.n, .int .i64 e.v.k, .int .i64 e.v.n, .string e.v.s, .slice a e.args.length c] 26)).alloc (.cells #[.int .i64 0, .int .i64 0, .int .i64 0, .int .i64 0, .string ⟨#[]⟩, .slice none 0 0] 26))) := below_alloc (below_alloc (Below.refl _ w) _) _
  have H6 : Hid (Six ((w.alloc (.cells #[.int .i64 e.op, .int .i64 e.n, .int .i64 e.v.k, .int .i64 e.v.n, .string e.v.s, .slice a e.args.length c] 26)).alloc (.cells #[.int .i64 0, .int .i64 0, .int .i64 0, .int .i64 0, .string ⟨#[]⟩, .slice none 0 0] 26)) w.heap.size e a c) := (Six.new w e a c).later (below_alloc (Below.refl _ _) _)
  have HZ : Hid (Box6 ((w.alloc (.cells #[.int .i64 e.op, .int .i64 e.n, .int .i64 e.v.k, .int .i64 e.v.n, .string e.v.s, .slice a e.args.length c] 26)).alloc (.cells #[.int .i64 0, .int .i64 0, .int .i64 0, .int .i64 0, .string ⟨#[]⟩, .slice none 0 0] 26)) (w.heap.size + 1) zeroE none 0) := by
    have h := Box6.new (w.alloc (.cells #[.int .i64 e.op, .int .i64 e.n, .int .i64 e.v.k, .int .i64 e.v.n, .string e.v.s, .slice a e.args.length c] 26)) zeroE none 0
    rw [show (w.alloc (.cells #[.int .i64 e.op, .int .i64 e.n, .int .i64 e.v.k, .int .i64 e.v.n, .string e.v.s, .slice a e.args.length c] 26)).heap.size = w.heap.size + 1 by simp [go_sem]] at h
    exact h
  rcases hc with hc | hc
  · have hl2 : (0 : Int) < (e.args.length : Int) := by
      cases h : e.args with
      | nil => rw [h] at hc; cases hc
      | cons x l => simp
    rw [hc] at HC
    rw [Ex.val_open]
    clear ha hc hse hK
    go_enter Tryz.func24, Tryz.ntmps24
    go_wp2_with (go_at_call 26; refine (unhide HC _ (unhide HB0)).mono ?_; rintro r w1 ⟨rfl, hb1⟩; have hB1 := below_step (unhide HB0) hb1; obtain ⟨b0, b1, b2, b3, b4, b5⟩ := (unhide H6).later hb1; obtain ⟨⟨z0, z1, z2, z3, z4, z5⟩, f0, f1, f2, f3, f4, f5⟩ := (unhide HZ).later hb1)
    have hE := put6 hB1 (B := w.heap.size + 1) (by omega) (.int .i64 e.op) (.int .i64 e.n) (.int .i64 e.v.k) (.int .i64 e.v.n) (.string e.v.s) (.slice a e.args.length c)
    refine bodyPost_ret (v := e.val a c) (by simp [results, Tryz.results24, go_sem, Ex.val, *]) rfl ⟨a, c, by rw [unhide HV], by rw [unhide HV]; exact (unhide HK).on (Kept.of_below _ _ hE), hE⟩
  · have hl0 : e.args.length = 0 := by rw [hc]; rfl
    rw [Ex.val_open, hl0]
    rw [hl0] at HB0 H6 HZ
    clear ha hc hse hK HC
    go_enter Tryz.func24, Tryz.ntmps24
    go_wp2
    refine bodyPost_ret (v := e.val a c) (by simp [results, Tryz.results24, go_sem, Ex.val, *]) rfl ⟨a, c, by rw [unhide HV], by rw [unhide HV]; exact (unhide HK).on (Kept.of_below _ _ (below_alloc (below_alloc (Below.refl _ w) _) _)), below_alloc (below_alloc (Below.refl _ w) _) _⟩
end Go.Proofs.YtmagpdblacgneaaGreat
set_option linter.unusedSimpArgs false
set_option linter.unusedVariables false
set_option maxRecDepth 100000
namespace Go.Proofs.YtmagpdblacgneaaGreat
open Go.RowKit Go.Sort

set_option maxHeartbeats 1000000 in
set_option maxRecDepth 100000 in
theorem simp_or (e : Ex) (hf : e.fin) (hc : e.args.any notConst = true) (h20 : e.op = 20) (a : Option Addr) (c : Nat) (lo : Nat) (w : World) (hK : ExK lo w a c e.args) : Calls Tryz.prog 24 #[e.val a c] w (SimpOk e lo w) := by
  have hse : simpE e = if e.args.any isTrueE then conE (.num 1) else e := by
    unfold simpE
    rw [hc, h20]
    simp
  obtain ⟨⟨hlen, _, _, _⟩, hfl⟩ := Ex.fin_open hf
  have ha := hK.now
  have HC := hide (fun (W : World) (hW : Below w.heap.size w W) => containsE_any (.func (.func 44) #[] #[]) notConst a c e.args W hlen hfl (Ex.all_later _ ha hW) (test_const W))
  have HT := hide (fun (W : World) (hW : Below w.heap.size w W) => containsE_any (.func (.func 48) #[] #[]) isTrueE a c e.args W hlen hfl (Ex.all_later _ ha hW) (test_true W))
  have HN := hide (fun W => expnum0 1 W)
  have HCO := hide (fun W => constant_any (.num 1) W)
  have HV := hide hse
  have HK := hide hK
  have HB0 : Hid (Below w.heap.size w ((w.alloc (.cells #[.int .i64 e.op, .int .i64 e.n, .int .i64 e.v.k, .int .i64 e.v.n, .string e.v.s, .slice a e.args.length c] 26)).alloc (.cells #[.int .i64 0, .int .i64 0, .int .i64 0, .int .i64 0, .string ⟨#[]⟩, .slice none 0 0] 26))) := below_alloc (below_alloc (Below.refl _ w) _) _
  have H6 : Hid (Six ((w.alloc (.cells #[.int .i64 e.op, .int .i64 e.n, .int .i64 e.v.k, .int .i64 e.v.n, .string e.v.s, .slice a e.args.length c] 26)).alloc (.cells #[.int .i64 0, .int .i64 0, .int .i64 0, .int .i64 0, .string ⟨#[]⟩, .slice none 0 0] 26)) w.heap.size e a c) := (Six.new w e a c).later (below_alloc (Below.refl _ _) _)
  have HZ : Hid (Box6 ((w.alloc (.cells #[.int .i64 e.op, .int .i64 e.n, .int .i64 e.v.k, .int .i64 e.v.n, .string e.v.s, .slice a e.args.length c] 26)).alloc (.cells #[.int .i64 0, .int .i64 0, .int .i64 0, .int .i64 0, .string ⟨#[]⟩, .slice none 0 0] 26)) (w.heap.size + 1) zeroE none 0) := by
    have h := Box6.new (w.alloc (.cells #[.int .i64 e.op, .int .i64 e.n, .int .i64 e.v.k, .int .i64 e.v.n, .string e.v.s, .slice a e.args.length c] 26)) zeroE none 0
    rw [show (w.alloc (.cells #[.int .i64 e.op, .int .i64 e.n, .int .i64 e.v.k, .int .i64 e.v.n, .string e.v.s, .slice a e.args.length c] 26)).heap.size = w.heap.size + 1 by simp [go_sem]] at h
    exact h
  have hl2 : (0 : Int) < (e.args.length : Int) := by
    cases h : e.args with
    | nil => rw [h] at hc; cases hc
    | cons x l => simp
  rw [hc] at HC
  rw [Ex.val_open]
  rw [h20] at HB0 H6 HZ ⊢
  clear ha hc hse hK
  cases ht : e.args.any isTrueE with
  | true =>
    rw [ht] at HT HV
    simp only [if_true] at HV
    clear ht
    go_enter Tryz.func24, Tryz.ntmps24
    go_wp2_with (first
      | (go_at_call 26; refine (unhide HT _ hB1).mono ?_; rintro r w2 ⟨rfl, hb2⟩)
      | (go_at_call 26; refine (unhide HC _ (unhide HB0)).mono ?_; rintro r w1 ⟨rfl, hb1⟩; have hB1 := below_step (unhide HB0) hb1; obtain ⟨b0, b1, b2, b3, b4, b5⟩ := (unhide H6).later hb1)
      | (go_at_call 49; refine (unhide HN w2).mono ?_; rintro r w3 ⟨rfl, hb3⟩)
      | (go_at_call 25; refine (unhide HCO w3).mono ?_; rintro r w4 ⟨rfl, hb4⟩; rw [Ex.val_open]; obtain ⟨⟨z0, z1, z2, z3, z4, z5⟩, f0, f1, f2, f3, f4, f5⟩ := (unhide HZ).later (below_step (below_step (below_step hb1 hb2) hb3) hb4)))
    have hE := put6 (below_step (below_step (below_step hB1 hb2) hb3) hb4) (B := w.heap.size + 1) (by omega) (.int .i64 2) (.int .i64 0) (.int .i64 1) (.int .i64 1) (.string ⟨#[]⟩) (.slice none 0 0)
    refine bodyPost_ret (v := (conE (.num 1)).val none 0) (by simp [results, Tryz.results24, go_sem, Ex.val, Ex.op, Ex.n, Ex.v, Ex.args, Val.num, *]) rfl ⟨none, 0, by rw [unhide HV], by rw [unhide HV]; exact exk_nil _ _ (), hE⟩
  | false =>
    rw [ht] at HT HV
    simp only [Bool.false_eq_true, if_false] at HV
    clear ht
    go_enter Tryz.func24, Tryz.ntmps24
    go_wp2_with (first
      | (go_at_call 26; refine (unhide HT _ hB1).mono ?_; rintro r w2 ⟨rfl, hb2⟩; obtain ⟨b0, b1, b2, b3, b4, b5⟩ := (unhide H6).later (below_step hb1 hb2); obtain ⟨⟨z0, z1, z2, z3, z4, z5⟩, f0, f1, f2, f3, f4, f5⟩ := (unhide HZ).later (below_step hb1 hb2))
      | (go_at_call 26; refine (unhide HC _ (unhide HB0)).mono ?_; rintro r w1 ⟨rfl, hb1⟩; have hB1 := below_step (unhide HB0) hb1; obtain ⟨b0, b1, b2, b3, b4, b5⟩ := (unhide H6).later hb1))
    have hE := put6 (below_step hB1 hb2) (B := w.heap.size + 1) (by omega) (.int .i64 20) (.int .i64 e.n) (.int .i64 e.v.k) (.int .i64 e.v.n) (.string e.v.s) (.slice a e.args.length c)
    refine bodyPost_ret (v := e.val a c) (by simp [results, Tryz.results24, go_sem, Ex.val, *]) rfl ⟨a, c, by rw [unhide HV], by rw [unhide HV]; exact (unhide HK).on (Kept.of_below _ _ hE), hE⟩
end Go.Proofs.YtmagpdblacgneaaGreat
