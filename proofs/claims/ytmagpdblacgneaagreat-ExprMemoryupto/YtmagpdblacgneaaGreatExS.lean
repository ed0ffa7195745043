import Derived.Test.YtmagpdblacgneaaGreatExP
set_option linter.unusedSimpArgs false
set_option linter.unusedVariables false
namespace Go.Proofs.YtmagpdblacgneaaGreat
open Go.RowKit Go.Sort

set_option maxHeartbeats 2000000 in
set_option maxRecDepth 100000 in
theorem ready2 (e x0 x1 : Ex) (hx : e.args = [x0, x1]) (hf0 : x0.fin) (hf1 : x1.fin) (a : Option Addr) (c : Nat) (w : World) (ha : Ex.all w a e.args)
    (IH : ∀ (i : Nat) (x : Ex), e.args[i]? = some x → ∀ (a' : Option Addr) (c' : Nat) (W : World), Ex.all W a' x.args → Calls Tryz.prog 45 #[x.val a' c'] W fun r w' => ∃ F, r = .returned F ∧ WorkK W.heap.size [] w' F x ∧ Below W.heap.size W w') :
    Calls Tryz.prog 45 #[e.val a c] w fun r w' => ∃ F, r = .returned F ∧ WorkK w.heap.size [] w' F e ∧ Below w.heap.size w w' := by
  have hmf : ∀ (fn : Fn) (first cap : Array Value) (w : World), (Instr.makeFunc fn first cap).run Tryz.prog w = .ok (.func fn first cap) w := fun _ _ _ _ => rfl
  have hln : e.args.length = 2 := by rw [hx]; rfl
  have hBa := below_alloc (Below.refl _ w) (.cells #[.int .i64 e.op, .int .i64 e.n, .int .i64 e.v.k, .int .i64 e.v.n, .string e.v.s, .slice a 2 c] 26)
  have h6 : Six (w.alloc (.cells #[.int .i64 e.op, .int .i64 e.n, .int .i64 e.v.k, .int .i64 e.v.n, .string e.v.s, .slice a e.args.length c] 26)) w.heap.size e a c := Six.new w e a c
  rw [hln] at h6
  have IH0 := IH 0 x0 (by rw [hx]; rfl)
  have IH1 := IH 1 x1 (by rw [hx]; rfl)
  obtain ⟨vb, vo, ea, hx0⟩ := Ex.all_get (i := 0) (e := x0) (Ex.all_later _ ha hBa) (by rw [hx]; rfl)
  obtain ⟨vb1, vo1, ea1, hx1⟩ := Ex.all_get (i := 1) (e := x1) (Ex.all_later _ ha hBa) (by rw [hx]; rfl)
  rw [ea] at ea1
  injection ea1 with ea1
  injection ea1 with eb1 ec1
  subst eb1 ec1
  obtain ⟨a0, cc0, ⟨d00, d01, d02, d03, d04, d05⟩, hal0⟩ := Ex.at_open hx0
  rw [Nat.zero_mul, Nat.add_zero] at d00 d01 d02 d03 d04 d05
  obtain ⟨a1, cc1, ⟨d10, d11, d12, d13, d14, d15⟩, hal1⟩ := Ex.at_open hx1
  rw [Nat.one_mul] at d10 d11 d12 d13 d14 d15
  obtain ⟨c0, c1, c2, c3, c4, c5⟩ := h6
  rw [hln] at c5
  subst ea
  rw [Ex.val_open, hln]
  have HEV : Hid (∀ row, evalE row e = twoV e.op (evalE row x0) (evalE row x1)) := fun row => by rw [evalE_eq, hx]; rfl
  clear IH ha hx hln hx0 hx1
  go_enter Tryz.func45, Tryz.ntmps45
  go_upto_region 8 with fail
  obtain ⟨wa, hwa⟩ : ∃ wa, wa = w.alloc (.cells #[.int .i64 e.op, .int .i64 e.n, .int .i64 e.v.k, .int .i64 e.v.n, .string e.v.s, .slice (some ⟨vb, vo, none⟩) 2 c] 26) := ⟨_, rfl⟩
  rw [← hwa] at hBa hal0 hal1 c0 c1 c2 c3 c4 c5 d00 d01 d02 d03 d04 d05 d10 d11 d12 d13 d14 d15 ⊢
  have hszl : w.heap.size ≤ wa.heap.size := hBa.size
  clear hwa
  have HBA := hide hBa
  have HAL0 := hide hal0
  have HIH0 := hide IH0
  have HAL1 := hide hal1
  have HIH1 := hide IH1
  clear hBa hal0 IH0 hal1 IH1
  go_cut [5, 6, 7] (fun p q r wx => ∃ B1 B2 B3 F1 F2 F3, p = .pointer (some ⟨B1, 0, none⟩) ∧ q = .pointer (some ⟨B2, 0, none⟩) ∧ r = .pointer (some ⟨B3, 0, none⟩) ∧ Hid ((w.heap.size ≤ B1 ∧ w.heap.size ≤ B2 ∧ w.heap.size ≤ B3) ∧ (Box1 wx B1 F1 ∧ Box1 wx B2 F2 ∧ Box1 wx B3 F3) ∧ Fun2K w.heap.size [] wx F1 (twoV e.op) ∧ WorkK w.heap.size [] wx F2 x0 ∧ WorkK w.heap.size [] wx F3 x1 ∧ Below w.heap.size w wx))
  case first =>
    refine wp_region_noPanic ?_
    refine wp_region_G (S := fun w' : World => Below wa.heap.size wa w') (k := 16) (by kernel_rfl) ?_
    refine anyG_takel (i := 0) (v := (.pointer (some ⟨w.heap.size, 0, none⟩))) [1, 2, 7, 12, 16, 17, 18] rfl (by kernel_rfl) (by kernel_rfl) (by kernel_rfl) (by kernel_rfl) (fun _ _ _ h => h) (Or.inl ⟨by rfl, fun w' hSw => ?_⟩) ((Below.refl _ wa).drew) ?_
    · have e0 := clater c0 hSw; have e5 := clater c5 hSw; have f00 := clater d00 hSw; have f01 := clater d01 hSw; have f02 := clater d02 hSw; have f03 := clater d03 hSw; have f04 := clater d04 hSw; have f05 := clater d05 hSw; have f10 := clater d10 hSw; have f11 := clater d11 hSw; have f12 := clater d12 hSw; have f13 := clater d13 hSw; have f14 := clater d14 hSw; have f15 := clater d15 hSw
      clear c0 c1 c2 c3 c4 c5 d00 d01 d02 d03 d04 d05 d10 d11 d12 d13 d14 d15
      go_simp
    try simp only [Act.put, List.setIfInBounds_toArray, List.set_cons_zero, List.set_cons_succ]
    refine anyG_takel (i := 1) (v := (.int .i64 e.op)) [2, 7, 12, 16, 17, 18] rfl (by kernel_rfl) (by kernel_rfl) (by kernel_rfl) (by kernel_rfl) (fun _ _ _ h => h) (Or.inl ⟨by rfl, fun w' hSw => ?_⟩) ((Below.refl _ wa).drew) ?_
    · have e0 := clater c0 hSw; have e5 := clater c5 hSw; have f00 := clater d00 hSw; have f01 := clater d01 hSw; have f02 := clater d02 hSw; have f03 := clater d03 hSw; have f04 := clater d04 hSw; have f05 := clater d05 hSw; have f10 := clater d10 hSw; have f11 := clater d11 hSw; have f12 := clater d12 hSw; have f13 := clater d13 hSw; have f14 := clater d14 hSw; have f15 := clater d15 hSw
      clear c0 c1 c2 c3 c4 c5 d00 d01 d02 d03 d04 d05 d10 d11 d12 d13 d14 d15
      go_simp
    try simp only [Act.put, List.setIfInBounds_toArray, List.set_cons_zero, List.set_cons_succ]
    refine anyG_takel (i := 3) (v := (.pointer (some ⟨w.heap.size, 5, none⟩))) [4, 5, 6, 7, 12, 16, 17, 18] rfl (by kernel_rfl) (by kernel_rfl) (by kernel_rfl) (by kernel_rfl) (fun _ _ _ h => h) (Or.inl ⟨by rfl, fun w' hSw => ?_⟩) ((Below.refl _ wa).drew) ?_
    · have e0 := clater c0 hSw; have e5 := clater c5 hSw; have f00 := clater d00 hSw; have f01 := clater d01 hSw; have f02 := clater d02 hSw; have f03 := clater d03 hSw; have f04 := clater d04 hSw; have f05 := clater d05 hSw; have f10 := clater d10 hSw; have f11 := clater d11 hSw; have f12 := clater d12 hSw; have f13 := clater d13 hSw; have f14 := clater d14 hSw; have f15 := clater d15 hSw
      clear c0 c1 c2 c3 c4 c5 d00 d01 d02 d03 d04 d05 d10 d11 d12 d13 d14 d15
      go_simp
    try simp only [Act.put, List.setIfInBounds_toArray, List.set_cons_zero, List.set_cons_succ]
    refine anyG_takel (i := 4) (v := (.slice (some ⟨vb, vo, none⟩) 2 c)) [5, 6, 7, 12, 16, 17, 18] rfl (by kernel_rfl) (by kernel_rfl) (by kernel_rfl) (by kernel_rfl) (fun _ _ _ h => h) (Or.inl ⟨by rfl, fun w' hSw => ?_⟩) ((Below.refl _ wa).drew) ?_
    · have e0 := clater c0 hSw; have e5 := clater c5 hSw; have f00 := clater d00 hSw; have f01 := clater d01 hSw; have f02 := clater d02 hSw; have f03 := clater d03 hSw; have f04 := clater d04 hSw; have f05 := clater d05 hSw; have f10 := clater d10 hSw; have f11 := clater d11 hSw; have f12 := clater d12 hSw; have f13 := clater d13 hSw; have f14 := clater d14 hSw; have f15 := clater d15 hSw
      clear c0 c1 c2 c3 c4 c5 d00 d01 d02 d03 d04 d05 d10 d11 d12 d13 d14 d15
      go_simp
    try simp only [Act.put, List.setIfInBounds_toArray, List.set_cons_zero, List.set_cons_succ]
    refine anyG_takel (i := 5) (v := (.pointer (some ⟨vb, vo, none⟩))) [6, 7, 12, 16, 17, 18] rfl (by kernel_rfl) (by kernel_rfl) (by kernel_rfl) (by kernel_rfl) (fun _ _ _ h => h) (Or.inl ⟨by rfl, fun w' hSw => ?_⟩) ((Below.refl _ wa).drew) ?_
    · have e0 := clater c0 hSw; have e5 := clater c5 hSw; have f00 := clater d00 hSw; have f01 := clater d01 hSw; have f02 := clater d02 hSw; have f03 := clater d03 hSw; have f04 := clater d04 hSw; have f05 := clater d05 hSw; have f10 := clater d10 hSw; have f11 := clater d11 hSw; have f12 := clater d12 hSw; have f13 := clater d13 hSw; have f14 := clater d14 hSw; have f15 := clater d15 hSw
      clear c0 c1 c2 c3 c4 c5 d00 d01 d02 d03 d04 d05 d10 d11 d12 d13 d14 d15
      go_simp
    try simp only [Act.put, List.setIfInBounds_toArray, List.set_cons_zero, List.set_cons_succ]
    refine anyG_takel (i := 6) (v := (.agg #[.int .i64 x0.op, .int .i64 x0.n, .int .i64 x0.v.k, .int .i64 x0.v.n, .string x0.v.s, .slice a0 x0.args.length cc0])) [7, 12, 16, 17, 18] rfl (by kernel_rfl) (by kernel_rfl) (by kernel_rfl) (by kernel_rfl) (fun _ _ _ h => h) (Or.inl ⟨by rfl, fun w' hSw => ?_⟩) ((Below.refl _ wa).drew) ?_
    · have e0 := clater c0 hSw; have e5 := clater c5 hSw; have f00 := clater d00 hSw; have f01 := clater d01 hSw; have f02 := clater d02 hSw; have f03 := clater d03 hSw; have f04 := clater d04 hSw; have f05 := clater d05 hSw; have f10 := clater d10 hSw; have f11 := clater d11 hSw; have f12 := clater d12 hSw; have f13 := clater d13 hSw; have f14 := clater d14 hSw; have f15 := clater d15 hSw
      clear c0 c1 c2 c3 c4 c5 d00 d01 d02 d03 d04 d05 d10 d11 d12 d13 d14 d15
      go_simp
    try simp only [Act.put, List.setIfInBounds_toArray, List.set_cons_zero, List.set_cons_succ]
    refine anyG_takel (i := 8) (v := (.pointer (some ⟨w.heap.size, 5, none⟩))) [9, 10, 11, 12, 16, 17, 18] rfl (by kernel_rfl) (by kernel_rfl) (by kernel_rfl) (by kernel_rfl) (fun _ _ _ h => h) (Or.inl ⟨by rfl, fun w' hSw => ?_⟩) ((Below.refl _ wa).drew) ?_
    · have e0 := clater c0 hSw; have e5 := clater c5 hSw; have f00 := clater d00 hSw; have f01 := clater d01 hSw; have f02 := clater d02 hSw; have f03 := clater d03 hSw; have f04 := clater d04 hSw; have f05 := clater d05 hSw; have f10 := clater d10 hSw; have f11 := clater d11 hSw; have f12 := clater d12 hSw; have f13 := clater d13 hSw; have f14 := clater d14 hSw; have f15 := clater d15 hSw
      clear c0 c1 c2 c3 c4 c5 d00 d01 d02 d03 d04 d05 d10 d11 d12 d13 d14 d15
      go_simp
    try simp only [Act.put, List.setIfInBounds_toArray, List.set_cons_zero, List.set_cons_succ]
    refine anyG_takel (i := 9) (v := (.slice (some ⟨vb, vo, none⟩) 2 c)) [10, 11, 12, 16, 17, 18] rfl (by kernel_rfl) (by kernel_rfl) (by kernel_rfl) (by kernel_rfl) (fun _ _ _ h => h) (Or.inl ⟨by rfl, fun w' hSw => ?_⟩) ((Below.refl _ wa).drew) ?_
    · have e0 := clater c0 hSw; have e5 := clater c5 hSw; have f00 := clater d00 hSw; have f01 := clater d01 hSw; have f02 := clater d02 hSw; have f03 := clater d03 hSw; have f04 := clater d04 hSw; have f05 := clater d05 hSw; have f10 := clater d10 hSw; have f11 := clater d11 hSw; have f12 := clater d12 hSw; have f13 := clater d13 hSw; have f14 := clater d14 hSw; have f15 := clater d15 hSw
      clear c0 c1 c2 c3 c4 c5 d00 d01 d02 d03 d04 d05 d10 d11 d12 d13 d14 d15
      go_simp
    try simp only [Act.put, List.setIfInBounds_toArray, List.set_cons_zero, List.set_cons_succ]
    refine anyG_takel (i := 10) (v := (.pointer (some ⟨vb, vo + 6, none⟩))) [11, 12, 16, 17, 18] rfl (by kernel_rfl) (by kernel_rfl) (by kernel_rfl) (by kernel_rfl) (fun _ _ _ h => h) (Or.inl ⟨by rfl, fun w' hSw => ?_⟩) ((Below.refl _ wa).drew) ?_
    · have e0 := clater c0 hSw; have e5 := clater c5 hSw; have f00 := clater d00 hSw; have f01 := clater d01 hSw; have f02 := clater d02 hSw; have f03 := clater d03 hSw; have f04 := clater d04 hSw; have f05 := clater d05 hSw; have f10 := clater d10 hSw; have f11 := clater d11 hSw; have f12 := clater d12 hSw; have f13 := clater d13 hSw; have f14 := clater d14 hSw; have f15 := clater d15 hSw
      clear c0 c1 c2 c3 c4 c5 d00 d01 d02 d03 d04 d05 d10 d11 d12 d13 d14 d15
      go_simp
    try simp only [Act.put, List.setIfInBounds_toArray, List.set_cons_zero, List.set_cons_succ]
    refine anyG_takel (i := 11) (v := (.agg #[.int .i64 x1.op, .int .i64 x1.n, .int .i64 x1.v.k, .int .i64 x1.v.n, .string x1.v.s, .slice a1 x1.args.length cc1])) [12, 16, 17, 18] rfl (by kernel_rfl) (by kernel_rfl) (by kernel_rfl) (by kernel_rfl) (fun _ _ _ h => h) (Or.inl ⟨by rfl, fun w' hSw => ?_⟩) ((Below.refl _ wa).drew) ?_
    · have e0 := clater c0 hSw; have e5 := clater c5 hSw; have f00 := clater d00 hSw; have f01 := clater d01 hSw; have f02 := clater d02 hSw; have f03 := clater d03 hSw; have f04 := clater d04 hSw; have f05 := clater d05 hSw; have f10 := clater d10 hSw; have f11 := clater d11 hSw; have f12 := clater d12 hSw; have f13 := clater d13 hSw; have f14 := clater d14 hSw; have f15 := clater d15 hSw
      clear c0 c1 c2 c3 c4 c5 d00 d01 d02 d03 d04 d05 d10 d11 d12 d13 d14 d15
      go_simp
    try simp only [Act.put, List.setIfInBounds_toArray, List.set_cons_zero, List.set_cons_succ]
    refine lat_any (R0 := fun lo N w v => Fun2K lo N w v (twoV e.op)) (R1 := fun lo N w v => WorkK lo N w v x0) (R2 := fun lo N w v => WorkK lo N w v x1) (goes_fun2 _) (goes_work x0) (goes_work x1) true w.heap.size wa 0
      (fun t0 t1 t2 p0 p1 p2 => #[.agg #[.int .i64 e.op, .int .i64 e.n, .int .i64 e.v.k, .int .i64 e.v.n, .string e.v.s, .slice (some ⟨vb, vo, none⟩) 2 c], .pointer (some ⟨w.heap.size, 0, none⟩), .nilFunc, undef, undef, p0, p1, p2, undef, undef, undef, .pointer (some ⟨w.heap.size, 5, none⟩), .slice (some ⟨vb, vo, none⟩) 2 c, .int .i64 2, .bool false, .bool false, undef, undef, .bool false, .bool false, undef, undef, undef, undef, undef, undef, undef, undef, undef, .bool true, .bool true, .pointer (some ⟨w.heap.size, 0, none⟩), .int .i64 e.op, t0, .pointer (some ⟨w.heap.size, 5, none⟩), .slice (some ⟨vb, vo, none⟩) 2 c, .pointer (some ⟨vb, vo, none⟩), .agg #[.int .i64 x0.op, .int .i64 x0.n, .int .i64 x0.v.k, .int .i64 x0.v.n, .string x0.v.s, .slice a0 x0.args.length cc0], t1, .pointer (some ⟨w.heap.size, 5, none⟩), .slice (some ⟨vb, vo, none⟩) 2 c, .pointer (some ⟨vb, vo + 6, none⟩), .agg #[.int .i64 x1.op, .int .i64 x1.n, .int .i64 x1.v.k, .int .i64 x1.v.n, .string x1.v.s, .slice a1 x1.args.length cc1], t2, undef, undef, undef, undef, undef, undef, undef, undef, undef, undef, undef, undef, undef, undef, undef, undef, undef]) (fun d b0 b1 b2 => #[true, true, decide (1 ≤ d), true, true, true, true, decide (2 ≤ d), true, true, true, true, decide (3 ≤ d), b0, b1, b2, false, false, false]) (fun d b0 b1 b2 => (3 - d) + (if b0 then 0 else 1) + (if b1 then 0 else 1) + (if b2 then 0 else 1) + 3) (fun d => if d = 0 then 2 else if d = 1 then 7 else 12) 13 14 15 74 60 60
      (fun w' h => h) ?ok (fun _ => ?c0) ?c1 ?c2 ?a0 ?a1 (fun _ => ?a2) ?fin (d := 0) (b0 := false) (b1 := false) (b2 := false) (t0 := undef) (t1 := undef) (t2 := undef) (p0 := undef) (p1 := undef) (p2 := undef) (N := []) (by decide) (by decide) (by decide) ?lat ?hf ?hL ?ha
    case ok =>
      intro d b0 b1 b2 h1 h2 h3 h4
      have hd : d = 0 ∨ d = 1 ∨ d = 2 ∨ d = 3 := by omega
      rcases hd with rfl | rfl | rfl | rfl <;> cases b0 <;> cases b1 <;> cases b2 <;> first | (exact absurd h4 (by decide)) | (show stOk _ _ _ _ _ _ _ _ _ _ _ _ = true; clear h1 h2 h3 h4; kernel_rfl)
    case hf => rfl
    case hL => rfl
    case ha => rfl
    case lat =>
      exact ⟨(Below.refl _ wa).drew, hszl, fun b h => absurd h (by simp), fun h => absurd h (by decide), fun h => absurd h (by decide), fun h => absurd h (by decide), fun h => absurd h (by decide), fun h => absurd h (by decide), fun h => absurd h (by decide), fun h => absurd h (by decide), fun h => absurd h (by decide), fun h => absurd h (by decide)⟩
    case c0 =>
      intro t0 t1 t2 p0 p1 p2 w' K hb hK
      refine wpOp_lit rfl (by rfl) fun K' hK' => ?_
      have HS := hide (double_k e.op w')
      clear c0 c1 c2 c3 c4 c5 d00 d01 d02 d03 d04 d05 d10 d11 d12 d13 d14 d15
      go_simp
      refine (unhide HS).mono ?_
      rintro r w1 ⟨F, rfl, hF, hb1⟩
      go_simp
      exact unhide hK' _ _ (hK F _ hb1 hF)
    case c1 =>
      intro t0 t1 t2 p0 p1 p2 w' K hb hK
      refine wpOp_lit rfl (by rfl) fun K' hK' => ?_
      have HS := hide (unhide HIH0 a0 cc0 w' (Ex.all_later _ (unhide HAL0) hb))
      rw [Ex.val_open] at HS
      clear c0 c1 c2 c3 c4 c5 d00 d01 d02 d03 d04 d05 d10 d11 d12 d13 d14 d15
      go_simp
      refine (unhide HS).mono ?_
      rintro r w1 ⟨F, rfl, hF, hb1⟩
      go_simp
      exact unhide hK' _ _ (hK F _ hb1 hF)
    case c2 =>
      intro t0 t1 t2 p0 p1 p2 w' K hb hK
      refine wpOp_lit rfl (by rfl) fun K' hK' => ?_
      have HS := hide (unhide HIH1 a1 cc1 w' (Ex.all_later _ (unhide HAL1) hb))
      rw [Ex.val_open] at HS
      clear c0 c1 c2 c3 c4 c5 d00 d01 d02 d03 d04 d05 d10 d11 d12 d13 d14 d15
      go_simp
      refine (unhide HS).mono ?_
      rintro r w1 ⟨F, rfl, hF, hb1⟩
      go_simp
      exact unhide hK' _ _ (hK F _ hb1 hF)
    case a0 =>
      intro t0 t1 t2 p0 p1 p2 w' K hK
      refine wpOp_lit rfl (by rfl) fun K' hK' => ?_
      clear c0 c1 c2 c3 c4 c5 d00 d01 d02 d03 d04 d05 d10 d11 d12 d13 d14 d15
      go_simp
      exact unhide hK' _ _ hK
    case a1 =>
      intro t0 t1 t2 p0 p1 p2 w' K hK
      refine wpOp_lit rfl (by rfl) fun K' hK' => ?_
      clear c0 c1 c2 c3 c4 c5 d00 d01 d02 d03 d04 d05 d10 d11 d12 d13 d14 d15
      go_simp
      exact unhide hK' _ _ hK
    case a2 =>
      intro t0 t1 t2 p0 p1 p2 w' K hK
      refine wpOp_lit rfl (by rfl) fun K' hK' => ?_
      clear c0 c1 c2 c3 c4 c5 d00 d01 d02 d03 d04 d05 d10 d11 d12 d13 d14 d15
      go_simp
      exact unhide hK' _ _ hK
    case fin =>
      intro t0 t1 t2 p0 p1 p2 N w' h
      obtain ⟨B1, hN1, rfl, x1, y1⟩ := h.q0 rfl
      obtain ⟨B2, hN2, rfl, x2, y2⟩ := h.q1 rfl
      obtain ⟨B3, hN3, rfl, x3, y3⟩ := h.q2 rfl rfl
      have ne1 : B1 ≠ B2 := fun he => h.n01 rfl rfl (by rw [he])
      have ne2 : B2 ≠ B1 := fun he => ne1 he.symm
      have ne3 : B1 ≠ B3 := fun he => h.n02 rfl rfl rfl (by rw [he])
      have ne4 : B3 ≠ B1 := fun he => ne3 he.symm
      have ne5 : B2 ≠ B3 := fun he => h.n12 rfl rfl rfl (by rw [he])
      have ne6 : B3 ≠ B2 := fun he => ne5 he.symm
      have hl1 := h.new B1 hN1
      have hl2 := h.new B2 hN2
      have hl3 := h.new B3 hN3
      obtain ⟨n1, k1, ht1, _⟩ := h.r0 (by decide)
      obtain ⟨n2, k2, ht2, _⟩ := h.r1 (by decide)
      obtain ⟨n3, k3, ht3, _⟩ := h.r2 (by decide)
      subst ht1 ht2 ht3
      have HK : Hid (Kept w.heap.size N w' (((w'.setCell ⟨B1, 0, none⟩ (.func (.func n1) #[] k1)).setCell ⟨B2, 0, none⟩ (.func (.func n2) #[] k2)).setCell ⟨B3, 0, none⟩ (.func (.func n3) #[] k3))) := ((Kept.of_store w' _ 0 _ hN1).trans (Kept.of_store _ _ 0 _ hN2)).trans (Kept.of_store _ _ 0 _ hN3)
      have HF1 := hide ((h.r0 (by decide)).on (unhide HK))
      have HF2 := hide ((h.r1 (by decide)).on (unhide HK))
      have HF3 := hide ((h.r2 (by decide)).on (unhide HK))
      have HBE : Hid (Below w.heap.size w (((w'.setCell ⟨B1, 0, none⟩ (.func (.func n1) #[] k1)).setCell ⟨B2, 0, none⟩ (.func (.func n2) #[] k2)).setCell ⟨B3, 0, none⟩ (.func (.func n3) #[] k3))) := (((below_step (unhide HBA) h.bel).setCell (p := ⟨B1, 0, none⟩) (by show w.heap.size ≤ B1; omega) _).setCell (p := ⟨B2, 0, none⟩) (by show w.heap.size ≤ B2; omega) _).setCell (p := ⟨B3, 0, none⟩) (by show w.heap.size ≤ B3; omega) _
      have HL := hide (show w.heap.size ≤ B1 ∧ w.heap.size ≤ B2 ∧ w.heap.size ≤ B3 by omega)
      unfold Box1 at x1 x2 x3
      have u2 : (w'.setCell ⟨B1, 0, none⟩ (.func (.func n1) #[] k1)).cell? ⟨B2, 0, none⟩ = some .nilFunc := by simp [go_sem, *]
      have v2 : (w'.setCell ⟨B1, 0, none⟩ (.func (.func n1) #[] k1)).frozen? ⟨B2, 0, none⟩ = false := by simp [go_sem, *]
      have u3 : ((w'.setCell ⟨B1, 0, none⟩ (.func (.func n1) #[] k1)).setCell ⟨B2, 0, none⟩ (.func (.func n2) #[] k2)).cell? ⟨B3, 0, none⟩ = some .nilFunc := by simp [go_sem, *]
      have v3 : ((w'.setCell ⟨B1, 0, none⟩ (.func (.func n1) #[] k1)).setCell ⟨B2, 0, none⟩ (.func (.func n2) #[] k2)).frozen? ⟨B3, 0, none⟩ = false := by simp [go_sem, *]
      have X4 : Hid (Box1 (((w'.setCell ⟨B1, 0, none⟩ (.func (.func n1) #[] k1)).setCell ⟨B2, 0, none⟩ (.func (.func n2) #[] k2)).setCell ⟨B3, 0, none⟩ (.func (.func n3) #[] k3)) B1 (.func (.func n1) #[] k1) ∧ Box1 (((w'.setCell ⟨B1, 0, none⟩ (.func (.func n1) #[] k1)).setCell ⟨B2, 0, none⟩ (.func (.func n2) #[] k2)).setCell ⟨B3, 0, none⟩ (.func (.func n3) #[] k3)) B2 (.func (.func n2) #[] k2) ∧ Box1 (((w'.setCell ⟨B1, 0, none⟩ (.func (.func n1) #[] k1)).setCell ⟨B2, 0, none⟩ (.func (.func n2) #[] k2)).setCell ⟨B3, 0, none⟩ (.func (.func n3) #[] k3)) B3 (.func (.func n3) #[] k3)) := by
        show _ ∧ _ ∧ _
        unfold Box1
        refine ⟨?_, ?_, ?_⟩ <;> simp [go_sem, *]
      clear h hl1 hl2 hl3 hN1 hN2 hN3 c0 c1 c2 c3 c4 c5 d00 d01 d02 d03 d04 d05 d10 d11 d12 d13 d14 d15
      dsimp only
      refine anyG_one (i := 16) (by kernel_rfl) ?_
      refine wpOp_lit rfl (by rfl) fun K hK => ?_
      go_simp
      refine unhide hK _ _ ⟨fun hh => absurd hh (by decide), ?_⟩
      clear hK K
      refine anyG_one (i := 17) (by kernel_rfl) ?_
      refine wpOp_lit rfl (by rfl) fun K hK => ?_
      go_simp
      refine unhide hK _ _ ⟨fun hh => absurd hh (by decide), ?_⟩
      clear hK K
      refine anyG_one (i := 18) (by kernel_rfl) ?_
      refine wpOp_lit rfl (by rfl) fun K hK => ?_
      go_simp
      refine unhide hK _ _ ⟨fun hh => absurd hh (by decide), ?_⟩
      clear hK K
      refine anyG_done (by kernel_rfl) ?_ _
      refine NoPanic.normal ?_
      clear x1 x2 x3 u2 u3 v2 v3 y1 y2 y3
      go_wp2
      go_meet
      exact ⟨B1, B2, B3, _, _, _, rfl, rfl, rfl, unhide HL, unhide X4, (unhide HF1).more (Nat.le_refl _) (by simp), (unhide HF2).more (Nat.le_refl _) (by simp), (unhide HF3).more (Nat.le_refl _) (by simp), unhide HBE⟩
  case rest =>
    obtain ⟨B1, B2, B3, F1, F2, F3, rfl, rfl, rfl, H⟩ := hcut
    clear c0 c1 c2 c3 c4 c5 d00 d01 d02 d03 d04 d05 d10 d11 d12 d13 d14 d15
    go_wp2
    go_ret
    obtain ⟨⟨l1, l2, l3⟩, ⟨x1, x2, x3⟩, hF1, hF2, hF3, hbe⟩ := unhide H
    refine ⟨_, rfl, ⟨62, _, rfl, ent31, fun W' a' c' row hW hr hv hl => ?_⟩, hbe⟩
    rw [unhide HEV row]
    exact w31 (twoV e.op) hf0 hf1 (x1.kept hW l1 (by simp)) (x2.kept hW l2 (by simp)) (x3.kept hW l3 (by simp)) (hF1.on hW).fun2 (hF2.on hW).work (hF3.on hW).work a' c' row hr hv hl
end Go.Proofs.YtmagpdblacgneaaGreat
