import Derived.Test.YtmagpdblacgneaaGreatPaB
import Derived.Test.YtmagpdblacgneaaGreatExI
import Derived.Test.YtmagpdblacgneaaGreatExE
import Derived.Test.YtmagpdblacgneaaGreatExC
set_option linter.unusedSimpArgs false
set_option linter.unusedVariables false
namespace Go.Proofs.YtmagpdblacgneaaGreat
open Go.RowKit Go.Sort

set_option maxHeartbeats 400000 in
set_option maxRecDepth 100000 in
theorem w29 (g : Val → Val) {x : Ex} {B3 B4 : Nat} {F3 F4 : Value} {W : World} (hx : x.fin) (h3 : Box1 W B3 F3) (h4 : Box1 W B4 F4) (hF : Fun1 W F3 g) (hK : Work W F4 x) (a : Option Addr) (c : Nat) (row : List Val) (hr : RowAt W a row) (hv : ∀ x ∈ row, VOk x) (hl : row.length ≤ 140737488355328) :
    Calls Tryz.prog 60 #[.slice a row.length c, .pointer (some ⟨B3, 0, none⟩), .pointer (some ⟨B4, 0, none⟩)] W fun r w' => r = .returned (g (evalE row x)).v ∧ Below W.heap.size W w' := by
  have hok := eval_ok hv x hx
  obtain ⟨n3, k3, rfl, e3, H3⟩ := hF
  obtain ⟨n4, k4, rfl, e4, H4⟩ := hK
  unfold Enters at e3 e4
  have hB := below_alloc (Below.refl _ W) (.cells #[.int .i64 0, .int .i64 0, .string ⟨#[]⟩] 23)
  have c3 := clater h3 hB
  have c4 := clater h4 hB
  have HZ := hide (zeroAt_new W)
  have HC4 := hide (H4 (W.alloc (.cells #[.int .i64 0, .int .i64 0, .string ⟨#[]⟩] 23)).drew a c row (hB.drew) (hr.later hB.drew) hv hl)
  generalize evalE row x = y at *
  have HC3 := hide (fun W' hW => H3 W' y hW hok)
  generalize g y = r at *
  clear H3 H4 h3 h4 hr hv hok hx
  go_enter Tryz.func60, Tryz.ntmps60
  go_upto_region 1 with fail
  obtain ⟨wa, hwa⟩ : ∃ wa, wa = W.alloc (.cells #[.int .i64 0, .int .i64 0, .string ⟨#[]⟩] 23) := ⟨_, rfl⟩
  rw [← hwa] at hB c3 c4 HZ HC4 ⊢
  have HB := hide hB
  clear hwa hB
  go_cut [] (fun wx => (wx.cell? ⟨W.heap.size, 0, none⟩ = some (.int .i64 r.k) ∧ wx.cell? ⟨W.heap.size, 1, none⟩ = some (.int .i64 r.n) ∧ wx.cell? ⟨W.heap.size, 2, none⟩ = some (.string r.s)) ∧ Below W.heap.size W wx)
  case first =>
    go_region_with (first
      | (refine (unhide HC3 _ hB1).mono ?_; rintro e w2 ⟨rfl, hb2⟩; rw [Val.open_]; have hB2 := below_step hbd hb2; obtain ⟨z0, z1, z2, z3, z4, z5⟩ := (unhide HZ).later hB2)
      | (refine (unhide HC4).mono ?_; rintro e w1 ⟨rfl, hb1⟩; have hbd := below_step ((Below.refl _ wa).drew) hb1; have hB1 := below_step (unhide HB) hbd; have c3b := clater c3 hbd))
    all_goals
      go_wp2
      go_meet
      refine ⟨⟨by simp [go_sem, *], by simp [go_sem, *], by simp [go_sem, *]⟩, ?_⟩
      exact put3 (below_step (unhide HB) hB2) (Nat.le_refl _) _ _ _
  case rest =>
    obtain ⟨⟨x0, x1, x2⟩, hbe⟩ := hcut
    have HBE := hide hbe
    clear hbe
    go_wp2
    exact bodyPost_ret (v := r.v) (by simp [results, Tryz.results60, go_sem, Val.v, *]) rfl ⟨rfl, unhide HBE⟩
set_option maxHeartbeats 1000000 in
set_option maxRecDepth 100000 in
theorem w31 (g : Val → Val → Val) {x y : Ex} {B1 B2 B3 : Nat} {F1 F2 F3 : Value} {W : World} (hx : x.fin) (hy : y.fin) (h1 : Box1 W B1 F1) (h2 : Box1 W B2 F2) (h3 : Box1 W B3 F3) (hF : Fun2 W F1 g) (hX : Work W F2 x) (hY : Work W F3 y) (a : Option Addr) (c : Nat) (row : List Val) (hr : RowAt W a row) (hv : ∀ x ∈ row, VOk x) (hl : row.length ≤ 140737488355328) :
    Calls Tryz.prog 62 #[.slice a row.length c, .pointer (some ⟨B1, 0, none⟩), .pointer (some ⟨B2, 0, none⟩), .pointer (some ⟨B3, 0, none⟩)] W fun r w' => r = .returned (g (evalE row x) (evalE row y)).v ∧ Below W.heap.size W w' := by
  have hokx := eval_ok hv x hx
  have hoky := eval_ok hv y hy
  obtain ⟨n1, k1, rfl, e1, H1⟩ := hF
  obtain ⟨n2, k2, rfl, e2, H2⟩ := hX
  obtain ⟨n3, k3, rfl, e3, H3⟩ := hY
  unfold Enters at e1 e2 e3
  have hB := below_alloc (Below.refl _ W) (.cells #[.int .i64 0, .int .i64 0, .string ⟨#[]⟩] 23)
  have c1 := clater h1 hB
  have c2 := clater h2 hB
  have c3 := clater h3 hB
  have HZ := hide (zeroAt_new W)
  have HC2 := hide (H2 (W.alloc (.cells #[.int .i64 0, .int .i64 0, .string ⟨#[]⟩] 23)).drew a c row (hB.drew) (hr.later hB.drew) hv hl)
  have HC3 := hide (fun W' hW => H3 W' a c row hW (hr.later hW) hv hl)
  generalize evalE row x = vx at *
  generalize evalE row y = vy at *
  have HC1 := hide (fun W' hW => H1 W' vx vy hW hokx hoky)
  generalize g vx vy = r at *
  clear H1 H2 H3 h1 h2 h3 hr hv hokx hoky hx hy
  go_enter Tryz.func62, Tryz.ntmps62
  go_upto_region 1 with fail
  obtain ⟨wa, hwa⟩ : ∃ wa, wa = W.alloc (.cells #[.int .i64 0, .int .i64 0, .string ⟨#[]⟩] 23) := ⟨_, rfl⟩
  rw [← hwa] at hB c1 c2 c3 HZ HC2 ⊢
  have HB := hide hB
  clear hwa hB
  go_cut [] (fun wx => (wx.cell? ⟨W.heap.size, 0, none⟩ = some (.int .i64 r.k) ∧ wx.cell? ⟨W.heap.size, 1, none⟩ = some (.int .i64 r.n) ∧ wx.cell? ⟨W.heap.size, 2, none⟩ = some (.string r.s)) ∧ Below W.heap.size W wx)
  case first =>
    have hS0 : (fun w' : World => w'.cell? ⟨B1, 0, none⟩ = some (.func (.func n1) #[] k1) ∧ w'.cell? ⟨B2, 0, none⟩ = some (.func (.func n2) #[] k2) ∧ w'.cell? ⟨B3, 0, none⟩ = some (.func (.func n3) #[] k3)) wa.drew := ⟨c1, c2, c3⟩
    refine wp_region_noPanic ?_
    refine wp_region_G (S := fun w' : World => w'.cell? ⟨B1, 0, none⟩ = some (.func (.func n1) #[] k1) ∧ w'.cell? ⟨B2, 0, none⟩ = some (.func (.func n2) #[] k2) ∧ w'.cell? ⟨B3, 0, none⟩ = some (.func (.func n3) #[] k3)) (k := 8) (by kernel_rfl) ?_
    refine anyG_takel (i := 0) (v := (.func (.func n1) #[] k1)) [7, 8] rfl (by kernel_rfl) (by kernel_rfl) (by kernel_rfl) (by kernel_rfl) (fun _ _ _ h => h) (Or.inl ⟨by rfl, fun w' hSw => ?_⟩) hS0 ?_
    · dsimp only at hSw; obtain ⟨q0, q1, q2⟩ := hSw; go_simp
    try simp only [Act.put, List.setIfInBounds_toArray, List.set_cons_zero, List.set_cons_succ]
    refine anyG_takel (i := 1) (v := (.func (.func n2) #[] k2)) [3, 7, 8] rfl (by kernel_rfl) (by kernel_rfl) (by kernel_rfl) (by kernel_rfl) (fun _ _ _ h => h) (Or.inl ⟨by rfl, fun w' hSw => ?_⟩) hS0 ?_
    · dsimp only at hSw; obtain ⟨q0, q1, q2⟩ := hSw; go_simp
    try simp only [Act.put, List.setIfInBounds_toArray, List.set_cons_zero, List.set_cons_succ]
    refine anyG_takel (i := 2) (v := (.slice a row.length c)) [3, 7, 8] rfl (by kernel_rfl) (by kernel_rfl) (by kernel_rfl) (by kernel_rfl) (fun _ _ _ h => h) (Or.inl ⟨by rfl, fun w' hSw => ?_⟩) hS0 ?_
    · dsimp only at hSw; obtain ⟨q0, q1, q2⟩ := hSw; go_simp
    try simp only [Act.put, List.setIfInBounds_toArray, List.set_cons_zero, List.set_cons_succ]
    refine anyG_takel (i := 4) (v := (.func (.func n3) #[] k3)) [6, 7, 8] rfl (by kernel_rfl) (by kernel_rfl) (by kernel_rfl) (by kernel_rfl) (fun _ _ _ h => h) (Or.inl ⟨by rfl, fun w' hSw => ?_⟩) hS0 ?_
    · dsimp only at hSw; obtain ⟨q0, q1, q2⟩ := hSw; go_simp
    try simp only [Act.put, List.setIfInBounds_toArray, List.set_cons_zero, List.set_cons_succ]
    refine anyG_takel (i := 5) (v := (.slice a row.length c)) [6, 7, 8] rfl (by kernel_rfl) (by kernel_rfl) (by kernel_rfl) (by kernel_rfl) (fun _ _ _ h => h) (Or.inl ⟨by rfl, fun w' hSw => ?_⟩) hS0 ?_
    · dsimp only at hSw; obtain ⟨q0, q1, q2⟩ := hSw; go_simp
    try simp only [Act.put, List.setIfInBounds_toArray, List.set_cons_zero, List.set_cons_succ]
    refine anyG_one (i := 3) (by kernel_rfl) ?_
    refine wpOp_lit rfl (by rfl) fun K hK => ?_
    go_simp
    refine (unhide HC2).mono ?_
    rintro e w1 ⟨rfl, hb1⟩
    have hbd := below_step ((Below.refl _ wa).drew) hb1
    have hB1 := below_step (unhide HB) hbd
    have hS1 : (fun w' : World => w'.cell? ⟨B1, 0, none⟩ = some (.func (.func n1) #[] k1) ∧ w'.cell? ⟨B2, 0, none⟩ = some (.func (.func n2) #[] k2) ∧ w'.cell? ⟨B3, 0, none⟩ = some (.func (.func n3) #[] k3)) w1 := ⟨clater c1 hbd, clater c2 hbd, clater c3 hbd⟩
    go_simp
    refine unhide hK _ _ ⟨fun _ => hS1, ?_⟩
    clear hK K
    refine anyG_one (i := 6) (by kernel_rfl) ?_
    refine wpOp_lit rfl (by rfl) fun K hK => ?_
    go_simp
    refine (unhide HC3 _ hB1).mono ?_
    rintro e w2 ⟨rfl, hb2⟩
    have hbd2 := below_step hbd hb2
    have hB2 := below_step (unhide HB) hbd2
    have hS2 : (fun w' : World => w'.cell? ⟨B1, 0, none⟩ = some (.func (.func n1) #[] k1) ∧ w'.cell? ⟨B2, 0, none⟩ = some (.func (.func n2) #[] k2) ∧ w'.cell? ⟨B3, 0, none⟩ = some (.func (.func n3) #[] k3)) w2 := ⟨clater c1 hbd2, clater c2 hbd2, clater c3 hbd2⟩
    go_simp
    refine unhide hK _ _ ⟨fun _ => hS2, ?_⟩
    clear hK K
    refine anyG_one (i := 7) (by kernel_rfl) ?_
    refine wpOp_lit rfl (by rfl) fun K hK => ?_
    go_simp
    refine (unhide HC1 _ hB2).mono ?_
    rintro e w4 ⟨rfl, hb4⟩
    have hB4 := below_step hbd2 hb4
    have hS4 : (fun w' : World => w'.cell? ⟨B1, 0, none⟩ = some (.func (.func n1) #[] k1) ∧ w'.cell? ⟨B2, 0, none⟩ = some (.func (.func n2) #[] k2) ∧ w'.cell? ⟨B3, 0, none⟩ = some (.func (.func n3) #[] k3)) w4 := ⟨clater c1 hB4, clater c2 hB4, clater c3 hB4⟩
    obtain ⟨z0, z1, z2, z3, z4, z5⟩ := (unhide HZ).later hB4
    rw [Val.open_]
    go_simp
    refine unhide hK _ _ ⟨fun _ => hS4, ?_⟩
    clear hK K
    refine anyG_one (i := 8) (by kernel_rfl) ?_
    refine wpOp_lit rfl (by rfl) fun K hK => ?_
    go_simp
    refine unhide hK _ _ ⟨fun hh => absurd hh (by decide), ?_⟩
    clear hK K
    refine anyG_done (by kernel_rfl) ?_ _
    refine NoPanic.normal ?_
    clear hS0 hS1 hS2 hS4
    go_wp2
    go_meet
    refine ⟨⟨by simp [go_sem, *], by simp [go_sem, *], by simp [go_sem, *]⟩, ?_⟩
    exact put3 (below_step (unhide HB) hB4) (Nat.le_refl _) _ _ _
  case rest =>
    obtain ⟨⟨x0, x1, x2⟩, hbe⟩ := hcut
    have HBE := hide hbe
    clear hbe
    go_wp2
    exact bodyPost_ret (v := r.v) (by simp [results, Tryz.results62, go_sem, Val.v, *]) rfl ⟨rfl, unhide HBE⟩
set_option maxHeartbeats 1000000 in
set_option maxRecDepth 100000 in
theorem w32 {x y z : Ex} {B1 B2 B3 : Nat} {F1 F2 F3 : Value} {W : World} (h1 : Box1 W B1 F1) (h2 : Box1 W B2 F2) (h3 : Box1 W B3 F3) (hX : Work W F1 x) (hY : Work W F2 y) (hZ : Work W F3 z) (a : Option Addr) (c : Nat) (row : List Val) (hr : RowAt W a row) (hv : ∀ x ∈ row, VOk x) (hl : row.length ≤ 140737488355328) :
    Calls Tryz.prog 63 #[.slice a row.length c, .pointer (some ⟨B1, 0, none⟩), .pointer (some ⟨B2, 0, none⟩), .pointer (some ⟨B3, 0, none⟩)] W fun r w' => r = .returned (if trueB (evalE row x) then evalE row y else evalE row z).v ∧ Below W.heap.size W w' := by
  obtain ⟨n1, k1, rfl, e1, H1⟩ := hX
  obtain ⟨n2, k2, rfl, e2, H2⟩ := hY
  obtain ⟨n3, k3, rfl, e3, H3⟩ := hZ
  unfold Enters at e1 e2 e3
  have hB := below_alloc (Below.refl _ W) (.cells #[.int .i64 0, .int .i64 0, .string ⟨#[]⟩] 23)
  have c1 := clater h1 hB
  have HZ := hide (zeroAt_new W)
  have HC1 := hide (H1 (W.alloc (.cells #[.int .i64 0, .int .i64 0, .string ⟨#[]⟩] 23)) a c row hB (hr.later hB) hv hl)
  have HC2 := hide (fun W' hW => H2 W' a c row hW (hr.later hW) hv hl)
  have HC3 := hide (fun W' hW => H3 W' a c row hW (hr.later hW) hv hl)
  have HT := hide (true_any (evalE row x))
  generalize evalE row x = vx at *
  generalize evalE row y = vy at *
  generalize evalE row z = vz at *
  have H2' := hide h2
  have H3' := hide h3
  clear H1 H2 H3 h1 h2 h3 hr hv hB
  cases ht : trueB vx
  · rw [ht] at HT
    clear ht
    go_enter Tryz.func63, Tryz.ntmps63
    go_wp2_with (first
      | (go_at_call 51; refine (unhide HT _).mono ?_; rintro e w2 ⟨rfl, hb2⟩; have hB2 := below_step hB1 hb2; have c3 := clater (unhide H3') hB2)
      | (refine (unhide HC3 _ hB2).mono ?_; rintro e w3 ⟨rfl, hb3⟩; rw [Val.open_]; obtain ⟨z0, z1, z2, z3, z4, z5⟩ := (unhide HZ).later (below_step hb1 (below_step hb2 hb3)))
      | (refine (unhide HC1).mono ?_; rintro e w1 ⟨rfl, hb1⟩; have hB1 := below_one hb1))
    refine bodyPost_ret (v := vz.v) (by simp [results, Tryz.results63, go_sem, Val.v, *]) rfl ⟨by first | rfl | simp, ?_⟩
    exact put3 (below_step hB2 hb3) (Nat.le_refl _) _ _ _
  · rw [ht] at HT
    clear ht
    go_enter Tryz.func63, Tryz.ntmps63
    go_wp2_with (first
      | (go_at_call 51; refine (unhide HT _).mono ?_; rintro e w2 ⟨rfl, hb2⟩; have hB2 := below_step hB1 hb2; have c2 := clater (unhide H2') hB2)
      | (refine (unhide HC2 _ hB2).mono ?_; rintro e w3 ⟨rfl, hb3⟩; rw [Val.open_]; obtain ⟨z0, z1, z2, z3, z4, z5⟩ := (unhide HZ).later (below_step hb1 (below_step hb2 hb3)))
      | (refine (unhide HC1).mono ?_; rintro e w1 ⟨rfl, hb1⟩; have hB1 := below_one hb1))
    refine bodyPost_ret (v := vy.v) (by simp [results, Tryz.results63, go_sem, Val.v, *]) rfl ⟨by first | rfl | simp, ?_⟩
    exact put3 (below_step hB2 hb3) (Nat.le_refl _) _ _ _
end Go.Proofs.YtmagpdblacgneaaGreat
set_option linter.unusedSimpArgs false
set_option linter.unusedVariables false
namespace Go.Proofs.YtmagpdblacgneaaGreat
open Go.RowKit Go.Sort

theorem Box1.kept {lo : Nat} {N : List Nat} {w w' : World} {B : Nat} {v : Value} (h : Box1 w B v) (hk : Kept lo N w w') (h1 : lo ≤ B) (h3 : B ∉ N) : Box1 w' B v := Kept.cell h hk h1 h3
theorem BoxAt.kept {lo : Nat} {N : List Nat} {w w' : World} {B : Nat} {v : Val} (h : BoxAt w B v) (hk : Kept lo N w w') (h1 : lo ≤ B) (h3 : B ∉ N) : BoxAt w' B v := ⟨Kept.cell h.1 hk h1 h3, Kept.cell h.2.1 hk h1 h3, Kept.cell h.2.2 hk h1 h3⟩
def Fun2K (lo : Nat) (N : List Nat) (W : World) (F : Value) (g : Val → Val → Val) : Prop := ∃ n k, F = .func (.func n) #[] k ∧ Enters n ∧ ∀ W' x y, Kept lo N W W' → VOk x → VOk y → Calls Tryz.prog n (#[x.v, y.v] ++ k) W' fun r w' => r = .returned (g x y).v ∧ Below W'.heap.size W' w'
def WorkK (lo : Nat) (N : List Nat) (W : World) (F : Value) (e : Ex) : Prop := ∃ n k, F = .func (.func n) #[] k ∧ Enters n ∧ ∀ W' a c row, Kept lo N W W' → RowAt W' a row → (∀ x ∈ row, VOk x) → row.length ≤ 140737488355328 → Calls Tryz.prog n (#[.slice a row.length c] ++ k) W' fun r w' => r = .returned (evalE row e).v ∧ Below W'.heap.size W' w'
theorem Fun2K.of {lo : Nat} {N : List Nat} {W : World} {F : Value} {g g' : Val → Val → Val} (h : Fun2K lo N W F g) (e : g = g') : Fun2K lo N W F g' := e ▸ h
theorem Fun2K.on {lo : Nat} {N : List Nat} {W W' : World} {F : Value} {g : Val → Val → Val} (h : Fun2K lo N W F g) (hk : Kept lo N W W') : Fun2K lo N W' F g := by
  obtain ⟨n, k, rfl, e, H⟩ := h
  exact ⟨n, k, rfl, e, fun W'' x y h1 h2 h3 => H W'' x y (hk.trans h1) h2 h3⟩
theorem WorkK.on {lo : Nat} {N : List Nat} {W W' : World} {F : Value} {x : Ex} (h : WorkK lo N W F x) (hk : Kept lo N W W') : WorkK lo N W' F x := by
  obtain ⟨n, k, rfl, e, H⟩ := h
  exact ⟨n, k, rfl, e, fun W'' a c row h1 h2 h3 h4 => H W'' a c row (hk.trans h1) h2 h3 h4⟩
theorem Fun2K.more {lo lo' : Nat} {N N' : List Nat} {W : World} {F : Value} {g : Val → Val → Val} (h : Fun2K lo N W F g) (hl : lo' ≤ lo) (hN : ∀ b ∈ N', b ∈ N ∨ b < lo ∨ W.heap.size ≤ b) : Fun2K lo' N' W F g := by
  obtain ⟨n, k, rfl, e, H⟩ := h
  exact ⟨n, k, rfl, e, fun W'' x y h1 h2 h3 => H W'' x y (h1.more hl hN) h2 h3⟩
theorem WorkK.more {lo lo' : Nat} {N N' : List Nat} {W : World} {F : Value} {x : Ex} (h : WorkK lo N W F x) (hl : lo' ≤ lo) (hN : ∀ b ∈ N', b ∈ N ∨ b < lo ∨ W.heap.size ≤ b) : WorkK lo' N' W F x := by
  obtain ⟨n, k, rfl, e, H⟩ := h
  exact ⟨n, k, rfl, e, fun W'' a c row h1 h2 h3 h4 => H W'' a c row (h1.more hl hN) h2 h3 h4⟩
theorem Fun2K.fun2 {lo : Nat} {N : List Nat} {W : World} {F : Value} {g : Val → Val → Val} (h : Fun2K lo N W F g) : Fun2 W F g := by
  obtain ⟨n, k, rfl, e, H⟩ := h
  exact ⟨n, k, rfl, e, fun W'' x y h1 h2 h3 => H W'' x y (Kept.of_below _ _ h1) h2 h3⟩
theorem WorkK.work {lo : Nat} {N : List Nat} {W : World} {F : Value} {x : Ex} (h : WorkK lo N W F x) : Work W F x := by
  obtain ⟨n, k, rfl, e, H⟩ := h
  exact ⟨n, k, rfl, e, fun W'' a c row h1 h2 h3 h4 => H W'' a c row (Kept.of_below _ _ h1) h2 h3 h4⟩
set_option maxHeartbeats 400000 in
theorem single_k (op : Int) (w : World) : Calls Tryz.prog 59 #[.int .i64 op] w fun e w' => (∃ F, e = .returned F ∧ ∀ W, Fun1 W F (oneV op)) ∧ w' = w := by
  by_cases h3 : op = 3
  · subst h3
    go_enter Tryz.func59, Tryz.ntmps59
    go_wp2
    go_ret
    exact ⟨⟨_, rfl, fun W => ⟨82, #[], rfl, ent59, fun W' x _ hx => neg_any x W' hx⟩⟩, rfl⟩
  by_cases h4 : op = 4
  · subst h4
    go_enter Tryz.func59, Tryz.ntmps59
    go_wp2
    go_ret
    exact ⟨⟨_, rfl, fun W => ⟨84, #[], rfl, ent62, fun W' x _ hx => not_any x W'⟩⟩, rfl⟩
  by_cases h5 : op = 5
  · subst h5
    go_enter Tryz.func59, Tryz.ntmps59
    go_wp2
    go_ret
    exact ⟨⟨_, rfl, fun W => ⟨85, #[], rfl, ent63, fun W' x _ hx => isnull_any x W'⟩⟩, rfl⟩
  have e3 : (op == 3) = false := by simpa using h3
  have e4 : (op == 4) = false := by simpa using h4
  have e5 : (op == 5) = false := by simpa using h5
  have eg : (fun x : Val => if x.k == 2 then Val.num x.s.size else Val.null) = oneV op := by
    funext x; unfold oneV; rw [e3, e4, e5]; rfl
  have HG := hide eg
  clear h3 h4 h5 eg
  go_enter Tryz.func59, Tryz.ntmps59
  go_wp2
  go_ret
  exact ⟨⟨_, rfl, fun W => Fun1.of ⟨86, #[], rfl, ent64, fun W' x _ hx => length_any x W' hx.2⟩ (unhide HG)⟩, rfl⟩
set_option maxHeartbeats 400000 in
theorem double_k (op : Int) (w : World) : Calls Tryz.prog 61 #[.int .i64 op] w fun e w' => ∃ F, e = .returned F ∧ Fun2K w.heap.size [] w' F (twoV op) ∧ Below w.heap.size w w' := by
  have hmf : ∀ (fn : Fn) (first cap : Array Value) (w : World), (Instr.makeFunc fn first cap).run Tryz.prog w = .ok (.func fn first cap) w := fun _ _ _ _ => rfl
  have HB := hide (below_alloc (Below.refl _ w) (.cells #[.int .i64 op] 3))
  have HX : Hid (Box1 (w.alloc (.cells #[.int .i64 op] 3)) w.heap.size (.int .i64 op)) := by show Box1 _ _ _; unfold Box1; simp [go_sem]
  by_cases h11 : op ≤ 11
  · have eg : reckV op = twoV op := by funext x y; unfold twoV; simp [h11]
    have HG := hide eg
    clear eg
    go_enter Tryz.func61, Tryz.ntmps61
    go_wp2
    go_ret
    exact ⟨_, rfl, Fun2K.of ⟨87, _, rfl, ent65, fun W' x y hW hx hy => dbl65_any op w.heap.size x y W' ((unhide HX).kept hW (Nat.le_refl _) (by simp)) hx hy⟩ (unhide HG), unhide HB⟩
  by_cases h17 : op ≤ 17
  · have eg : testV op = twoV op := by funext x y; unfold twoV; simp [h11, h17]
    have HG := hide eg
    clear eg
    go_enter Tryz.func61, Tryz.ntmps61
    go_wp2
    go_ret
    exact ⟨_, rfl, Fun2K.of ⟨88, _, rfl, ent66, fun W' x y hW hx hy => dbl66_any op w.heap.size x y W' ((unhide HX).kept hW (Nat.le_refl _) (by simp)) hx hy⟩ (unhide HG), unhide HB⟩
  by_cases h18 : op = 18
  · subst h18
    go_enter Tryz.func61, Tryz.ntmps61
    go_wp2
    go_ret
    exact ⟨_, rfl, ⟨90, _, rfl, ent68, fun W' x y hW hx hy => cat_any x y W' hx.2 hy.2⟩, unhide HB⟩
  have e18 : (op == 18) = false := by simpa using h18
  have eg : bothV op = twoV op := by funext x y; unfold twoV; simp [h11, h17, e18]
  have HG := hide eg
  clear eg h18
  go_enter Tryz.func61, Tryz.ntmps61
  go_wp2
  go_ret
  exact ⟨_, rfl, Fun2K.of ⟨91, _, rfl, ent69, fun W' x y hW hx hy => dbl69_any op w.heap.size x y W' ((unhide HX).kept hW (Nat.le_refl _) (by simp)) hx hy⟩ (unhide HG), unhide HB⟩
set_option maxHeartbeats 400000 in
theorem leaf_k (e : Ex) (hg : goodE e) (h0 : e.args = []) (a : Option Addr) (c : Nat) (w : World) : Calls Tryz.prog 58 #[e.val a c] w fun r w' => ∃ F, r = .returned F ∧ WorkK w.heap.size [] w' F e ∧ Below w.heap.size w w' := by
  have hmf : ∀ (fn : Fn) (first cap : Array Value) (w : World), (Instr.makeFunc fn first cap).run Tryz.prog w = .ok (.func fn first cap) w := fun _ _ _ _ => rfl
  have hB := below_alloc (Below.refl _ w) (.cells #[.int .i64 e.op, .int .i64 e.n, .int .i64 e.v.k, .int .i64 e.v.n, .string e.v.s, .slice a e.args.length c] 26)
  have HB := hide hB
  obtain ⟨c0, c1, c2, c3, c4, c5⟩ : Six (w.alloc (.cells #[.int .i64 e.op, .int .i64 e.n, .int .i64 e.v.k, .int .i64 e.v.n, .string e.v.s, .slice a e.args.length c] 26)) w.heap.size e a c := Six.new w e a c
  have HEV : Hid (∀ row, evalE row e = nodeV e.op e.n e.v row []) := fun row => by rw [evalE_eq, h0, evalL]
  have HC := hide (clean_any e.v)
  rw [Val.open_] at HC
  rw [Ex.val_open]
  rcases no_args hg h0 with ⟨h1, hn⟩ | h2
  · have e2 : (e.op == 2) = false := by rw [h1]; rfl
    have HW : Hid (∀ row, evalE row e = if decide ((row.length : Int) ≤ e.n) then Val.null else cleanV (row.getD e.n.toNat .null)) := fun row => by
      rw [unhide HEV row]; show (if e.op == 2 then _ else _) = _; rw [e2]; rfl
    have HX : Hid (Box1 ((w.alloc (.cells #[.int .i64 e.op, .int .i64 e.n, .int .i64 e.v.k, .int .i64 e.v.n, .string e.v.s, .slice a e.args.length c] 26)).alloc (.cells #[.int .i64 e.n] 3)) (w.heap.size + 1) (.int .i64 e.n)) := by show Box1 _ _ _; unfold Box1; simp [go_sem]
    clear h0 hg hB h1 HC
    go_enter Tryz.func58, Tryz.ntmps58
    go_wp2
    go_ret
    refine ⟨_, rfl, ⟨81, _, rfl, ent58, fun W' a' c' row hW hr hv hl => ?_⟩, below_alloc (unhide HB) _⟩
    rw [unhide HW row]
    exact leaf2_any e.n (w.heap.size + 1) a' c' row W' hn hl ((unhide HX).kept hW (by omega) (by simp)) hr
  · have e2 : (e.op == 2) = true := by rw [h2]; rfl
    have HW : Hid (∀ row, evalE row e = cleanV e.v) := fun row => by
      rw [unhide HEV row]; show (if e.op == 2 then _ else _) = _; rw [e2]; rfl
    generalize cleanV e.v = cv at *
    clear h0 hg hB h2
    go_enter Tryz.func58, Tryz.ntmps58
    go_wp2_with (go_at_call 57; refine (unhide HC _).mono ?_; rintro r w1 ⟨rfl, hb1⟩; rw [Val.open_])
    go_ret
    have hbx : BoxAt (w1.alloc (.cells #[.int .i64 cv.k, .int .i64 cv.n, .string cv.s] 23)) w1.heap.size cv := by refine ⟨?_, ?_, ?_⟩ <;> simp [go_sem]
    refine ⟨_, rfl, ⟨80, _, rfl, ent57, fun W' a' c' row hW hr hv hl => ?_⟩, below_alloc (below_one hb1) _⟩
    rw [unhide HW row]
    exact leaf1_any cv w1.heap.size a' row.length c' W' (hbx.kept hW (below_one hb1).size (by simp))
end Go.Proofs.YtmagpdblacgneaaGreat
