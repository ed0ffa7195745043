import Derived.Test.YthbfomcmjjnikaaGreatRefF
set_option linter.unusedSimpArgs false
set_option linter.unusedVariables false
namespace Go.Proofs.YthbfomcmjjnikaaGreat
open Go.RowKit Go.Sort

set_option maxHeartbeats 8000000 in
set_option maxRecDepth 100000 in
theorem rwrite2 (X : Vc) (p : Sl) (kd : Nat) (w : World) (hs : small X) (hp : VecAt w X p) (hg : goodB X = true) (hk : X.k = (kd : Int)) (hkd : kd = 1 ∨ kd = 2) (h4 : ¬ (2 = 4 ∧ kd = 2)) (hl : X.nl.length ≤ 4096) :
    Calls Tryz.prog 62 #[vecV X p, .int .i64 2] w fun e w' => ∃ b, e = .returned (.tuple #[.string (toB (headB 2 kd (valsV X) ++ b)), .int .i64 0]) ∧ RBody 2 (standL (valsV X)) b ∧ Below w.heap.size w w' := by
  rw [vecV_open]
  have bl := below_alloc (Below.refl _ w) (.cells #[.int .i64 X.k, .slice p.a1 X.nl.length p.c1, .slice p.a2 X.ns.length p.c2, .slice p.a3 X.ss.length p.c3] 49)
  have HG := hide (rgood_any X p _ hs (hp.later bl))
  rw [vecV_open] at HG
  rw [hg] at HG
  have HVL : Hid ((valsV X).length = X.nl.length) := vals_len hg
  have hnl : X.nl.length ≤ 1048576 := hs.1
  have FACT : Hid (∀ w1, Below (w.alloc (.cells #[.int .i64 X.k, .slice p.a1 X.nl.length p.c1, .slice p.a2 X.ns.length p.c2, .slice p.a3 X.ss.length p.c3] 49)).heap.size (w.alloc (.cells #[.int .i64 X.k, .slice p.a1 X.nl.length p.c1, .slice p.a2 X.ns.length p.c2, .slice p.a3 X.ss.length p.c3] 49)) w1 → (w1.cell? ⟨w.heap.size, 0, none⟩ = some (.int .i64 X.k) ∧ w1.cell? ⟨w.heap.size, 1, none⟩ = some (.slice p.a1 X.nl.length p.c1) ∧ w1.cell? ⟨w.heap.size, 2, none⟩ = some (.slice p.a2 X.ns.length p.c2) ∧ w1.cell? ⟨w.heap.size, 3, none⟩ = some (.slice p.a3 X.ss.length p.c3)) ∧ Hid (Below w.heap.size w w1)) := fun w1 hb1 => by
    obtain ⟨hc1, _⟩ := bcell hb1
    refine ⟨⟨?_, ?_, ?_, ?_⟩, below_step bl hb1⟩ <;> (rw [hc1 _ _ (by simp)]; simp [go_sem])
  have HV : Hid (∀ W, Hid (Below w.heap.size w W) → Calls Tryz.prog 63 #[.agg #[.int .i64 X.k, .slice p.a1 X.nl.length p.c1, .slice p.a2 X.ns.length p.c2, .slice p.a3 X.ss.length p.c3]] W fun e w' => ∃ a6 c6, e = .returned (.slice a6 X.nl.length c6) ∧ Hid (RowAt w' a6 (valsV X)) ∧ Hid (Below W.heap.size W w')) := fun W hW => by
    have := rvalues_any X p W hs (hp.later hW)
    rw [vecV_open] at this
    refine this.mono fun e w' ⟨v, he, h1, h2⟩ => ?_
    obtain ⟨a6, c6, rfl, _, _, hr⟩ := ownV_slice h1
    rw [vals_len hg] at he
    exact ⟨a6, c6, he, hr, h2⟩
  have HST : Hid (∀ W a6 c6, Hid (RowAt W a6 (valsV X)) → Hid (Below w.heap.size w W) → Calls Tryz.prog 65 #[.slice a6 X.nl.length c6] W fun e w' => ∃ a7 c7, e = .returned (.slice a7 (standL (valsV X)).length c7) ∧ Hid (OwnV w' W.heap.size (.slice a7 (standL (valsV X)).length c7) (standL (valsV X))) ∧ Hid (Below W.heap.size W w')) := fun W a6 c6 hr hW => by
    have := stand_any a6 c6 (valsV X) W (by rw [vals_len hg]; exact hnl) hr
    rw [vals_len hg] at this
    refine this.mono fun e w' ⟨v, he, h1, h2⟩ => ?_
    obtain ⟨a7, c7, rfl, _, _, _⟩ := ownV_slice h1
    exact ⟨a7, c7, he, h1, h2⟩
  have HUN : Hid (∀ W B a7 c7, Hid (OwnV W B (.slice a7 (standL (valsV X)).length c7) (standL (valsV X))) → Hid (Below w.heap.size w W) → Calls Tryz.prog 64 #[.slice a7 (standL (valsV X)).length c7] W fun e w' => ∃ S a8 c8, e = .returned (.slice a8 (unlT S S.length).length c8) ∧ Hid (S.Perm (standL (valsV X)) ∧ Rises S) ∧ Hid (RowAt w' a8 (unlT S S.length)) ∧ Hid (Below W.heap.size W w')) := fun W B a7 c7 ho hW => by
    refine (unlike_any B (standL (valsV X)) _ W (Nat.le_trans (stand_len _) (by rw [vals_len hg]; exact hnl)) ho).mono fun e w' ⟨S, v, he, h1, h2, h3⟩ => ?_
    obtain ⟨a8, c8, rfl, _, _, hr⟩ := ownV_slice h2
    exact ⟨S, a8, c8, he, h1, hr, h3⟩
  have i0 : ¬ (4096 : Int) < (X.nl.length : Int) := by omega
  have HSZ : Hid (∀ x ∈ standL (valsV X), x.s.size ≤ 1000) := fun x hx => vals_size hg (List.mem_filter.1 hx).1
  have HYL : Hid ((standL (valsV X)).length ≤ 4096) := Nat.le_trans (stand_len _) (by rw [vals_len hg]; exact hl)
  have HH2 := hide (head2 2 kd (by omega) (by omega))
  have hkd2 : (kd : Int) ≤ 2 := by omega
  obtain ⟨ys, hys⟩ : ∃ ys, Hid (ys = standL (valsV X)) := ⟨_, rfl⟩
  rw [← unhide hys] at HST HUN HSZ HYL ⊢
  obtain ⟨xs, hxs⟩ : ∃ xs, Hid (xs = valsV X) := ⟨_, rfl⟩
  rw [← unhide hxs] at HV HST HVL ⊢
  rw [hk] at FACT HG HV ⊢
  have HYX : Hid (ys = standL xs) := by show _ = _; rw [unhide hys, unhide hxs]
  have HUL : Hid (∀ S : List Val, S.Perm ys → (unlT S S.length).length ≤ 4096) := fun S hp => Nat.le_trans (unlT_len S S.length) (by rw [hp.length_eq]; exact unhide HYL)
  clear hg bl hs hp hk hkd h4
  go_enter Tryz.func62, Tryz.ntmps62
  go_upto_region 8 with (first
    | (go_at_call 68; refine (unhide HG).mono ?_; rintro e w1 ⟨rfl, hb1⟩; obtain ⟨⟨c0, c1, c2, c3⟩, hbb⟩ := unhide FACT _ hb1; clear hb1)
    | (go_at_call 63; refine (unhide HV _ hbb).mono ?_; rintro e w2 ⟨a6, c6, rfl, R6, hb2⟩; have hbw2 := hide (below_step (unhide hbb) (unhide hb2)))
    | (go_at_call 65; refine (unhide HST _ _ _ R6 hbw2).mono ?_; rintro e w3 ⟨a7, c7, rfl, R7, hb3⟩; have hbw3 := hide (below_step (unhide hbw2) (unhide hb3)))
    | (go_at_call 64; refine (unhide HUN _ _ _ _ R7 hbw3).mono ?_; rintro e w4 ⟨S, a8, c8, rfl, HS, R8, hb4⟩; have hWl : ((unlT S S.length).length : Int) ≤ 4096 := (by have := unhide HUL S (unhide HS).1; omega))
    | fail)
  obtain ⟨W5, hW5⟩ : ∃ W5, Hid (W5 = w4.alloc (.cells #[.slice a8 (unlT S S.length).length c8] 37)) := ⟨_, rfl⟩
  have RS : Hid (RSt w W5 (kd : Int) xs ys (unlT S S.length) a6 a7 a8 c8 w4.heap.size) := by
    have b5 : Below w4.heap.size w4 W5 := by rw [unhide hW5]; exact below_alloc (Below.refl _ _) _
    obtain ⟨a7', c7', e7, _, _, r7⟩ := ownV_slice (unhide R7)
    injection e7 with e7 _ _
    subst e7
    exact ⟨cell_later b5 (cell_later (unhide hb4) (cell_later (unhide hb3) (cell_later (unhide hb2) c0))), (((unhide R6).later (unhide hb3)).later (unhide hb4)).later b5, (r7.later (unhide hb4)).later b5, (unhide R8).later b5, by rw [unhide hW5]; simp [go_sem], below_step (below_step (unhide hbw3) (unhide hb4)) b5⟩
  rw [← unhide hW5]
  have hS7 := (unhide RS).k0
  have HWP : Hid (∃ S, S.Perm ys ∧ Rises S ∧ unlT S S.length = unlT S S.length) := ⟨S, (unhide HS).1, (unhide HS).2, rfl⟩
  obtain ⟨Wd, hWd⟩ : ∃ Wd, Hid (Wd = unlT S S.length) := ⟨_, rfl⟩
  rw [← unhide hWd] at RS hWl ⊢
  obtain ⟨B8, hB8⟩ : ∃ B8, Hid (B8 = w4.heap.size) := ⟨_, rfl⟩
  rw [← unhide hB8] at RS ⊢
  clear c0 c1 c2 c3 hbb hb2 hb3 hb4 hbw2 hbw3 R6 R7 R8 hW5 FACT HV HST HUN HG HUL hnl hB8 HWP
  go_cut [9] (fun s9 wx => s9 = .string (toB ((beL (2 : Int) 1 1 ++ beL (kd : Int) 1 1) ++ beL (X.nl.length : Int) 4 4)) ∧ Hid (RSt w wx (kd : Int) xs ys Wd a6 a7 a8 c8 B8))
  case first =>
    have hkdn : (kd : Int) ≤ 2 ∧ 0 ≤ (kd : Int) := by omega
    have HBY := hide (fun W' => rbytes_any (X.nl.length : Int) 4 W' (by omega))
    obtain ⟨T1, hT1⟩ : ∃ T1, Hid (toB [(2 : Int), (kd : Int)] = T1) := ⟨_, rfl⟩
    obtain ⟨T2, hT2⟩ : ∃ T2, Hid (toB (beL (X.nl.length : Int) 4 4) = T2) := ⟨_, rfl⟩
    have hTs : T1.size + T2.size ≤ 9223372036854775807 := by rw [← unhide hT1, ← unhide hT2, toB_size, toB_size, beL_len]; simp
    have hTT : Hid (T1 ++ T2 = toB ((beL (2 : Int) 1 1 ++ beL (kd : Int) 1 1) ++ beL (X.nl.length : Int) 4 4)) := by
      show _ = _
      rw [← unhide hT1, ← unhide hT2, toB_append]
      exact congrArg (· ++ toB (beL (X.nl.length : Int) 4 4)) (unhide HH2)
    rw [unhide hT2] at HBY
    have hS0 : (fun w' : World => w'.cell? ⟨w.heap.size, 0, none⟩ = some (.int .i64 (kd : Int))) W5.drew := hS7
    have RSC : Hid (RSt w W5.drew (kd : Int) xs ys Wd a6 a7 a8 c8 B8) := (unhide RS).later ((Below.refl _ _).drew)
    clear hS7 RS
    refine wp_region_noPanic ?_
    refine wp_region_G (S := fun w' : World => w'.cell? ⟨w.heap.size, 0, none⟩ = some (.int .i64 (kd : Int))) (k := 11) (by kernel_rfl) ?_
    refine anyG_takel (i := 0) (v := (.int .i64 2)) [1, 5, 6, 11] rfl (by kernel_rfl) (by kernel_rfl) (by kernel_rfl) (by kernel_rfl) (fun _ _ _ h => h) (Or.inl ⟨by rfl, fun w' hSw => ?_⟩) hS0 ?_
    · dsimp only at hSw; go_simp; try (first | exact wrap8 hkdn | rfl | exact wrap_size (by omega))
    try simp only [Act.put, List.setIfInBounds_toArray, List.set_cons_zero, List.set_cons_succ]
    refine anyG_takel (i := 1) (v := (.int .u8 2)) [5, 6, 11] rfl (by kernel_rfl) (by kernel_rfl) (by kernel_rfl) (by kernel_rfl) (fun _ _ _ h => h) (Or.inl ⟨by rfl, fun w' hSw => ?_⟩) hS0 ?_
    · dsimp only at hSw; go_simp; try (first | exact wrap8 hkdn | rfl | exact wrap_size (by omega))
    try simp only [Act.put, List.setIfInBounds_toArray, List.set_cons_zero, List.set_cons_succ]
    refine anyG_takel (i := 2) (v := (.pointer (some ⟨w.heap.size, 0, none⟩))) [3, 4, 5, 6, 11] rfl (by kernel_rfl) (by kernel_rfl) (by kernel_rfl) (by kernel_rfl) (fun _ _ _ h => h) (Or.inl ⟨by rfl, fun w' hSw => ?_⟩) hS0 ?_
    · dsimp only at hSw; go_simp; try (first | exact wrap8 hkdn | rfl | exact wrap_size (by omega))
    try simp only [Act.put, List.setIfInBounds_toArray, List.set_cons_zero, List.set_cons_succ]
    refine anyG_takel (i := 3) (v := (.int .i64 (kd : Int))) [4, 5, 6, 11] rfl (by kernel_rfl) (by kernel_rfl) (by kernel_rfl) (by kernel_rfl) (fun _ _ _ h => h) (Or.inl ⟨by rfl, fun w' hSw => ?_⟩) hS0 ?_
    · dsimp only at hSw; go_simp; try (first | exact wrap8 hkdn | rfl | exact wrap_size (by omega))
    try simp only [Act.put, List.setIfInBounds_toArray, List.set_cons_zero, List.set_cons_succ]
    refine anyG_takel (i := 4) (v := (.int .u8 (kd : Int))) [5, 6, 11] rfl (by kernel_rfl) (by kernel_rfl) (by kernel_rfl) (by kernel_rfl) (fun _ _ _ h => h) (Or.inl ⟨by rfl, fun w' hSw => ?_⟩) hS0 ?_
    · dsimp only at hSw; go_simp; try (first | exact wrap8 hkdn | rfl | exact wrap_size (by omega))
    try simp only [Act.put, List.setIfInBounds_toArray, List.set_cons_zero, List.set_cons_succ]
    refine anyG_takel (i := 7) (v := (.slice a6 X.nl.length c6)) [8, 9, 10, 11] rfl (by kernel_rfl) (by kernel_rfl) (by kernel_rfl) (by kernel_rfl) (fun _ _ _ h => h) (Or.inl ⟨by rfl, fun w' hSw => ?_⟩) hS0 ?_
    · dsimp only at hSw; go_simp; try (first | exact wrap8 hkdn | rfl | exact wrap_size (by omega))
    try simp only [Act.put, List.setIfInBounds_toArray, List.set_cons_zero, List.set_cons_succ]
    refine anyG_takel (i := 8) (v := (.int .i64 X.nl.length)) [9, 10, 11] rfl (by kernel_rfl) (by kernel_rfl) (by kernel_rfl) (by kernel_rfl) (fun _ _ _ h => h) (Or.inl ⟨by rfl, fun w' hSw => ?_⟩) hS0 ?_
    · dsimp only at hSw; go_simp; try (first | exact wrap8 hkdn | rfl | exact wrap_size (by omega))
    try simp only [Act.put, List.setIfInBounds_toArray, List.set_cons_zero, List.set_cons_succ]
    refine anyG_takel (i := 9) (v := (.int .u64 X.nl.length)) [10, 11] rfl (by kernel_rfl) (by kernel_rfl) (by kernel_rfl) (by kernel_rfl) (fun _ _ _ h => h) (Or.inl ⟨by rfl, fun w' hSw => ?_⟩) hS0 ?_
    · dsimp only at hSw; go_simp; try (first | exact wrap8 hkdn | rfl | exact wrap_size (by omega))
    try simp only [Act.put, List.setIfInBounds_toArray, List.set_cons_zero, List.set_cons_succ]
    clear hS0
    refine anyG_many [5, 10] (by kernel_rfl) (by simp) ?_
    intro i hi
    simp only [List.mem_cons, List.not_mem_nil, or_false] at hi
    rcases hi with rfl | rfl
    · refine wpOp_lit rfl (by rfl) fun K hK => ?_
      go_simp
      have HOB : Hid (OwnB (W5.alloc (.cells #[.int .u8 (2 : Int), .int .u8 (kd : Int)] 5)).drew 0 (.slice (some ⟨W5.heap.size, 0, none⟩) 2 2) [(2 : Int), (kd : Int)]) := World.ownsRow.drew (two_own W5 (2 : Int) (kd : Int))
      have RSB : Hid (RSt w (W5.alloc (.cells #[.int .u8 (2 : Int), .int .u8 (kd : Int)] 5)).drew (kd : Int) xs ys Wd a6 a7 a8 c8 B8) := (unhide RSC).later ((below_alloc (Below.refl _ W5.drew) (.cells #[.int .u8 (2 : Int), .int .u8 (kd : Int)] 5)))
      refine unhide hK _ _ ⟨fun _ => (unhide RSB).k0, ?_⟩
      clear hK K
      generalize hWB : (W5.alloc (.cells #[.int .u8 (2 : Int), .int .u8 (kd : Int)] 5)).drew = WB at *
      clear hWB
      refine anyG_many [6, 10] (by kernel_rfl) (by simp) ?_
      intro i hi
      simp only [List.mem_cons, List.not_mem_nil, or_false] at hi
      rcases hi with rfl | rfl
      · refine wpOp_lit rfl (by rfl) fun K hK => ?_
        have hcv := convert_own (unhide HOB)
        rw [unhide hT1] at hcv
        go_simp
        refine unhide hK _ _ ⟨fun _ => (unhide RSB).k0, ?_⟩
        clear hK K hcv
        refine anyG_one (i := 10) (by kernel_rfl) ?_
        refine wpOp_lit rfl (by rfl) fun K hK => ?_
        go_simp
        refine (unhide HBY _).mono ?_
        rintro e w9 ⟨rfl, hb9⟩
        have RS9 := hide ((unhide RSB).later hb9)
        clear hb9
        go_simp
        refine unhide hK _ _ ⟨fun _ => (unhide RS9).k0, ?_⟩
        clear hK K
        refine anyG_one (i := 11) (by kernel_rfl) ?_
        refine wpOp_lit rfl (by rfl) fun K hK => ?_
        go_simp
        rw [if_neg (Nat.not_lt.2 hTs)]
        go_simp
        refine unhide hK _ _ ⟨fun hh => absurd hh (by decide), ?_⟩
        clear hK K
        refine anyG_one (i := 12) (by kernel_rfl) ?_
        refine wpOp_lit rfl (by rfl) fun K hK => ?_
        go_simp
        refine unhide hK _ _ ⟨fun hh => absurd hh (by decide), ?_⟩
        clear hK K
        refine anyG_done (by kernel_rfl) ?_ _
        refine NoPanic.normal ?_
        go_wp2
        go_meet
        exact ⟨by rw [unhide hTT], unhide RS9⟩
      · refine wpOp_lit rfl (by rfl) fun K hK => ?_
        go_simp
        refine (unhide HBY _).mono ?_
        rintro e w9 ⟨rfl, hb9⟩
        have RS9 := hide ((unhide RSB).later hb9)
        replace HOB := hide (own_later (unhide HOB) hb9)
        clear hb9
        go_simp
        refine unhide hK _ _ ⟨fun _ => (unhide RS9).k0, ?_⟩
        clear hK K
        refine anyG_one (i := 6) (by kernel_rfl) ?_
        refine wpOp_lit rfl (by rfl) fun K hK => ?_
        have hcv := convert_own (unhide HOB)
        rw [unhide hT1] at hcv
        go_simp
        refine unhide hK _ _ ⟨fun _ => (unhide RS9).k0, ?_⟩
        clear hK K hcv
        refine anyG_one (i := 11) (by kernel_rfl) ?_
        refine wpOp_lit rfl (by rfl) fun K hK => ?_
        go_simp
        rw [if_neg (Nat.not_lt.2 hTs)]
        go_simp
        refine unhide hK _ _ ⟨fun hh => absurd hh (by decide), ?_⟩
        clear hK K
        refine anyG_one (i := 12) (by kernel_rfl) ?_
        refine wpOp_lit rfl (by rfl) fun K hK => ?_
        go_simp
        refine unhide hK _ _ ⟨fun hh => absurd hh (by decide), ?_⟩
        clear hK K
        refine anyG_done (by kernel_rfl) ?_ _
        refine NoPanic.normal ?_
        go_wp2
        go_meet
        exact ⟨by rw [unhide hTT], unhide RS9⟩
    · refine wpOp_lit rfl (by rfl) fun K hK => ?_
      go_simp
      refine (unhide HBY _).mono ?_
      rintro e w9 ⟨rfl, hb9⟩
      have RS9 := hide ((unhide RSC).later hb9)
      clear hb9
      go_simp
      refine unhide hK _ _ ⟨fun _ => (unhide RS9).k0, ?_⟩
      clear hK K
      refine anyG_one (i := 5) (by kernel_rfl) ?_
      refine wpOp_lit rfl (by rfl) fun K hK => ?_
      go_simp
      have HOB := hide (two_own w9 (2 : Int) (kd : Int))
      have RSB := hide ((unhide RS9).later (below_alloc (Below.refl _ w9) (.cells #[.int .u8 (2 : Int), .int .u8 (kd : Int)] 5)))
      refine unhide hK _ _ ⟨fun _ => (unhide RSB).k0, ?_⟩
      clear hK K
      refine anyG_one (i := 6) (by kernel_rfl) ?_
      refine wpOp_lit rfl (by rfl) fun K hK => ?_
      have hcv := convert_own (unhide HOB)
      rw [unhide hT1] at hcv
      go_simp
      refine unhide hK _ _ ⟨fun _ => (unhide RSB).k0, ?_⟩
      clear hK K hcv
      refine anyG_one (i := 11) (by kernel_rfl) ?_
      refine wpOp_lit rfl (by rfl) fun K hK => ?_
      go_simp
      rw [if_neg (Nat.not_lt.2 hTs)]
      go_simp
      refine unhide hK _ _ ⟨fun hh => absurd hh (by decide), ?_⟩
      clear hK K
      refine anyG_one (i := 12) (by kernel_rfl) ?_
      refine wpOp_lit rfl (by rfl) fun K hK => ?_
      go_simp
      refine unhide hK _ _ ⟨fun hh => absurd hh (by decide), ?_⟩
      clear hK K
      refine anyG_done (by kernel_rfl) ?_ _
      refine NoPanic.normal ?_
      go_wp2
      go_meet
      exact ⟨by rw [unhide hTT], unhide RSB⟩
  case rest =>
    obtain ⟨rfl, RX⟩ := hcut
    rename World => wx
    obtain ⟨bb, e85⟩ : ∃ bb, ((ys.length : Int) == (X.nl.length : Int)) = bb := ⟨_, rfl⟩
    go_upto_if 85 with fail
    go_cut [9] (fun s9 wy => s9 = .string (toB (headB 2 kd xs)) ∧ Hid (RSt w wy (kd : Int) xs ys Wd a6 a7 a8 c8 B8))
    case first =>
      have HHD : Hid (toB (headB 2 kd xs) = toB ((beL (2 : Int) 1 1 ++ beL (kd : Int) 1 1) ++ beL (X.nl.length : Int) 4 4) ++ toB (nullsL xs)) := by
        show _ = _
        rw [headB, toB_append, unhide HVL]
        rfl
      obtain ⟨T3, hT3⟩ : ∃ T3, Hid (toB ((beL (2 : Int) 1 1 ++ beL (kd : Int) 1 1) ++ beL (X.nl.length : Int) 4 4) = T3) := ⟨_, rfl⟩
      have hT3s : T3.size ≤ 100 := by rw [← unhide hT3, toB_size, List.length_append, List.length_append, beL_len, beL_len, beL_len]; omega
      rw [unhide hT3] at HHD ⊢
      have HBB := hide e85
      clear e85
      cases bb
      rotate_left 1
      · have hnul : ys.length = X.nl.length := by have h := unhide HBB; simp at h; omega
        have HNL : Hid (toB (nullsL xs) = ⟨#[0]⟩) := by
          show _ = _
          rw [nulls_no (by rw [← unhide HYX, hnul, unhide HVL])]
          rfl
        clear hnul
        go_wp2
        go_meet
        exact ⟨by rw [unhide HHD, unhide HNL], RX⟩
      · have hnul : ¬ ys.length = X.nl.length := by have h := unhide HBB; simp at h; omega
        have HNL : Hid (toB (nullsL xs) = (⟨#[1]⟩ : ByteArray) ++ toB (leB (total 1 (marksN xs)) (bytesN xs.length 1))) := by
          show _ = _
          rw [nulls_yes (by rw [← unhide HYX, unhide HVL]; exact hnul), toB_append]
          rfl
        have HML : Hid ((marksN xs).length = X.nl.length) := by show _ = _; rw [← unhide HVL]; simp [marksN]
        clear hnul
        have hf1 : ∀ W : World, (Instr.field 59 (.agg #[.int .i64 1, .int .i64 1, .string ⟨#[]⟩]) 1).run Tryz.prog W = .ok (.int .i64 1) W := fun _ => by kernel_rfl
        have hf0 : ∀ W : World, (Instr.field 59 (.agg #[.int .i64 1, .int .i64 0, .string ⟨#[]⟩]) 1).run Tryz.prog W = .ok (.int .i64 0) W := fun _ => by kernel_rfl
        go_wp2_with fail
        go_loopw [10, 90] (fun s10 s wr => ∃ k : Nat, k ≤ X.nl.length ∧ s = .int .i64 (k : Int) ∧ OwnU wr wx.heap.size s10 ((marksN xs).take k) ∧ Below wx.heap.size wx wr) (fun _ s _ => X.nl.length - (intOf s).toNat)
        case atStart => exact ⟨0, Nat.zero_le _, rfl, World.ownsRow_nil _ _ _ _, Below.refl _ _⟩
        case round =>
          obtain ⟨k, hk, rfl, ho, hb⟩ := hrel
          by_cases h8 : k < X.nl.length
          · have h9 : (k : Int) < (X.nl.length : Int) := by omega
            obtain ⟨x, hx⟩ : ∃ x, xs[k]? = some x := ⟨_, List.getElem?_eq_getElem (by rw [unhide HVL]; exact h8)⟩
            rcases ((unhide RX).later hb).r6 with e | ⟨rb, ro, rfl, hc⟩
            · rw [e] at hx; cases hx
            obtain ⟨d0, d1, d2⟩ := hc k x hx
            have bl := below_alloc (Below.refl _ wr) (.cells #[.int .i64 x.k, .int .i64 x.n, .string x.s] 59)
            have HO1 := hide (ho.later bl)
            have HB1 := hide (below_step hb bl)
            have hkl : ((marksN xs).take k).length ≤ 1048576 := by rw [List.length_take]; omega
            have HKL := hide hkl
            have HMK : Hid ((marksN xs).take (k + 1) = (marksN xs).take k ++ [if nullB x then 1 else 0]) := by
              show _ = _
              have h2 : (marksN xs)[k]? = some (if nullB x then 1 else 0) := by simp [marksN, hx]
              obtain ⟨h3, h4⟩ := List.getElem?_eq_some_iff.1 h2
              rw [List.take_succ_eq_append_getElem h3, h4]
            clear hc hx ho hb bl hkl
            rcases Bool.eq_false_or_eq_true (nullB x) with e1 | e1
            · have e2 : (x.k == 0) = true := e1
              rw [e1, if_pos rfl] at HMK
              clear e1
              go_wp2_with (first
                | (go_at_call 81; refine (rtruth_yes _).mono ?_; rintro e w9 ⟨rfl, hb9⟩; have HO9 := hide ((unhide HO1).later hb9); have HB9 := hide (below_step (unhide HB1) hb9); clear hb9)
                | (at_builtin; refine wpList_append_num w9 1 rfl (.tmp 94) (.tmp 101) rfl wx.heap.size _ _ rfl rfl (unhide HO9) (unhide HKL) (unhide HB9).size ?_; intro v1 w8 g1 g2; replace g1 := hide g1; replace g2 := hide g2))
              go_roundw
              case rel => exact ⟨k + 1, by omega, by go_num, by rw [unhide HMK]; exact unhide g1, (unhide HB9).trans (unhide g2)⟩
              case measure => first | (simp [intOf]; omega) | (simp only [intOf]; omega)
            · have e2 : (x.k == 0) = false := e1
              rw [e1, if_neg (by simp)] at HMK
              clear e1
              go_wp2_with (first
                | (go_at_call 81; refine (rtruth_no _).mono ?_; rintro e w9 ⟨rfl, hb9⟩; have HO9 := hide ((unhide HO1).later hb9); have HB9 := hide (below_step (unhide HB1) hb9); clear hb9)
                | (at_builtin; refine wpList_append_num w9 0 rfl (.tmp 94) (.tmp 101) rfl wx.heap.size _ _ rfl rfl (unhide HO9) (unhide HKL) (unhide HB9).size ?_; intro v1 w8 g1 g2; replace g1 := hide g1; replace g2 := hide g2))
              go_roundw
              case rel => exact ⟨k + 1, by omega, by go_num, by rw [unhide HMK]; exact unhide g1, (unhide HB9).trans (unhide g2)⟩
              case measure => first | (simp [intOf]; omega) | (simp only [intOf]; omega)
          · have h9 : ¬ (k : Int) < (X.nl.length : Int) := by omega
            have hk8 : k = (marksN xs).length := by rw [unhide HML]; omega
            rw [hk8, List.take_length] at ho
            obtain ⟨a10, c10, e10, hlis⟩ := ho.lis
            have HBT := hide (rbits_any a10 c10 (marksN xs) 1 wr (by rw [unhide HML]; omega) (by omega) (fun m hm => by
              obtain ⟨x, _, rfl⟩ := List.mem_map.1 hm
              split <;> decide) hlis)
            have RZ := hide ((unhide RX).later hb)
            subst e10
            obtain ⟨T4, hT4⟩ : ∃ T4, Hid (toB (leB (total 1 (marksN xs)) (bytesN (marksN xs).length 1)) = T4) := ⟨_, rfl⟩
            have hT4s : T4.size ≤ 1000 := by
              rw [← unhide hT4, toB_size, leB_len, unhide HML]
              unfold bytesN
              omega
            have HFN : Hid (toB (headB 2 kd xs) = T3 ++ ((⟨#[1]⟩ : ByteArray) ++ T4)) := by
              show _ = _
              rw [unhide HHD, unhide HNL, ← unhide hT4, unhide HML, unhide HVL]
            rw [unhide hT4] at HBT
            have hone : ((⟨#[1]⟩ : ByteArray) ++ T4).size = 1 + T4.size := by rw [ByteArray.size_append]; rfl
            clear ho hb hk8 hlis HHD HNL
            go_wp2_with (go_at_call 82; refine (unhide HBT).mono ?_; rintro e w7 ⟨rfl, hb7⟩; replace hb7 := hide hb7)
            go_meet
            exact ⟨by rw [unhide HFN], (unhide RZ).later (unhide hb7)⟩
    case rest =>
      obtain ⟨rfl, RY⟩ := hcut
      clear e85
      rename World => wy
      have hyl := unhide HYL
      have HHL : Hid ((toB (headB 2 kd xs)).size ≤ 1000000) := by
        show _ ≤ _
        rw [toB_size]
        have := nulls_len xs (by rw [unhide HVL]; exact hl)
        simp only [headB, List.length_append, beL_len]
        omega
      obtain ⟨T0, hT0⟩ : ∃ T0, Hid (toB (headB 2 kd xs) = T0) := ⟨_, rfl⟩
      have hT0s : T0.size ≤ 1000000 := by rw [← unhide hT0]; exact unhide HHL
      rw [unhide hT0]
      go_wp2_with fail
      go_loopw [15, 16, 17] (fun s15 s16 s17 wr => ∃ (i M : Nat) (Rl : List Int) (R : ByteArray), s15 = .string R ∧ s16 = .int .i64 (M : Int) ∧ s17 = .int .i64 (i : Int) ∧ i ≤ ys.length ∧ M ≤ i ∧ R.size ≤ 1012 * i ∧ Hid (R = toB Rl) ∧ Hid (runsO ys.length ys = Rl ++ runsO (ys.drop i).length (ys.drop i)) ∧ Hid (runsM ys.length ys = M + runsM (ys.drop i).length (ys.drop i)) ∧ Below wy.heap.size wy wr) (fun _ _ s _ => ys.length - (intOf s).toNat)
      case atStart => exact ⟨0, 0, [], _, rfl, rfl, rfl, Nat.zero_le _, Nat.zero_le _, Nat.zero_le _, rfl, rfl, (Nat.zero_add _).symm, Below.refl _ _⟩
      case round =>
        obtain ⟨i, M, Rl, R, rfl, rfl, rfl, hi, hMi, hRs, HR, HRU, HRM, hb⟩ := hrel
        by_cases h8 : i < ys.length
        · have h9 : (i : Int) < (ys.length : Int) := by omega
          obtain ⟨z, hz⟩ : ∃ z, ys[i]? = some z := ⟨_, List.getElem?_eq_getElem h8⟩
          have HZ := hide hz
          obtain ⟨w5, hw5⟩ : ∃ w5, Hid (w5 = wr) := ⟨_, rfl⟩
          have RI := hide ((unhide RY).later hb)
          have HBI := hide hb
          rw [← unhide hw5] at RI HBI ⊢
          clear hz hb hw5
          go_wp2_with fail
          go_loopw [18] (fun s wr => ∃ k : Nat, s = .int .i64 (k : Int) ∧ i ≤ k ∧ k ≤ ys.length ∧ Hid (∀ q y, i ≤ q → q < k → ys[q]? = some y → ordV y z = 0) ∧ Below w5.heap.size w5 wr) (fun s _ => ys.length + 1 - (intOf s).toNat)
          case atStart => exact ⟨i, rfl, Nat.le_refl _, by omega, fun q y h1 h2 => (by omega), Below.refl _ _⟩
          case round =>
            obtain ⟨k, rfl, hik, hkn, HQ, hb⟩ := hrel
            obtain ⟨bb, hbb⟩ : ∃ bb, Hid (bb = decide (k < ys.length ∧ ordV (atL ys k) z = 0)) := ⟨_, rfl⟩
            have RK := hide ((unhide RI).later hb)
            have HB := hide hb
            clear hb
            go_upto_region 31 with fail
            go_cut [145] (fun s145 wx => s145 = .bool bb ∧ Below wr.heap.size wr wx)
            case first =>
              rcases (unhide RK).r7 with e | ⟨rb, ro, rfl, hc⟩
              · exfalso; rw [e] at h8; simp at h8
              obtain ⟨c0, c1, c2⟩ := hc i z (unhide HZ)
              by_cases hk8 : k < ys.length
              · have i1 : (k : Int) < (ys.length : Int) := by omega
                obtain ⟨d0, d1, d2⟩ := hc k _ (atL_some hk8)
                have HO := hide (fun W' => rorder_any (atL ys k) z W')
                rw [Val.open_, Val.open_] at HO
                have HE : Hid (bb = (ordV (atL ys k) z == 0)) := by
                  show _ = _
                  rw [unhide hbb]
                  by_cases h0 : ordV (atL ys k) z = 0
                  · simp [hk8, h0]
                  · simp [h0]
                generalize ordV (atL ys k) z = O at *
                generalize atL ys k = y at *
                have k0 := cell_regrown c0
                have k1 := cell_regrown c1
                have k2 := cell_regrown c2
                have k3 := cell_regrown d0
                have k4 := cell_regrown d1
                have k5 := cell_regrown d2
                clear c0 c1 c2 d0 d1 d2 hc
                refine wp_region_quiet_below (by kernel_rfl) (by kernel_rfl) ?_
                repeat (go_big_quiet_step (first
                  | (go_at_call 84; exact Calls.regrown_of (unhide HO _))))
                refine wpQuiet_nil ?_
                intro w' hw'
                have hB : Below wr.heap.size wr w' := by obtain ⟨p, rfl⟩ := hw'; exact below_regrown _ _ _
                clear hw'
                go_wp2
                go_meet
                exact ⟨by rw [unhide HE], hB⟩
              · have i1 : ¬ (k : Int) < (ys.length : Int) := by omega
                have HE : Hid (bb = false) := by show _ = _; rw [unhide hbb]; simp [hk8]
                clear c0 c1 c2 hc
                refine wp_region_quiet_below (by kernel_rfl) (by kernel_rfl) ?_
                repeat (go_big_quiet_step (first
                  | (go_at_call 84; exact Calls.regrown_of (rorder_any z z _))))
                refine wpQuiet_nil ?_
                intro w' hw'
                have hB : Below wr.heap.size wr w' := by obtain ⟨p, rfl⟩ := hw'; exact below_regrown _ _ _
                clear hw'
                go_wp2
                go_meet
                exact ⟨by rw [unhide HE], hB⟩
            case rest =>
              obtain ⟨rfl, hbx⟩ := hcut
              rename World => wx
              have HBX := hide (below_step (unhide HB) hbx)
              have RX2 := hide ((unhide RK).later hbx)
              clear hbx
              cases bb
              · have HAH : Hid (aheadO (ys.drop i) = k - i) := by
                  show _ = _
                  refine aheadO_eq (z := z) (by rw [List.getElem?_drop]; exact unhide HZ) (by rw [List.length_drop]; omega) (fun q y h1 h2 => ?_) (fun y h2 => ?_)
                  · rw [List.getElem?_drop] at h2
                    exact unhide HQ (i + q) y (by omega) (by omega) h2
                  · rw [List.getElem?_drop, show i + (k - i) = k by omega] at h2
                    have hkl := (List.getElem?_eq_some_iff.1 h2).1
                    intro h0
                    have h3 := unhide hbb
                    rw [atL_of h2] at h3
                    simp [hkl, h0] at h3
                have hki : i < k := by
                  rcases Nat.lt_or_ge i k with h | h
                  · exact h
                  · exfalso
                    have e : k = i := by omega
                    have h3 := unhide hbb
                    rw [e, atL_of (unhide HZ), ord_self] at h3
                    simp [h8] at h3
                have hzs : ys.drop i = z :: ys.drop (i + 1) := by
                  obtain ⟨h1, h2⟩ := List.getElem?_eq_some_iff.1 (unhide HZ)
                  rw [List.drop_eq_getElem_cons h1, h2]
                have NX := runsO_next (x := z) (xs := ys.drop (i + 1))
                rw [← hzs, unhide HAH, List.drop_drop, show i + (k - i) = k by omega] at NX
                obtain ⟨kd2, hkd3⟩ : ∃ kd2, kd2 = k - i := ⟨_, rfl⟩
                rw [← hkd3] at NX
                have e33 : (k : Int) - (i : Int) = (kd2 : Int) := by omega
                have hk2 : (kd2 : Int) ≤ 4096 := by omega
                have hzs1 := unhide HSZ z (List.mem_of_getElem? (unhide HZ))
                have HBY := hide (fun W' => rbytes_any (kd2 : Int) 4 W' (by omega))
                have HPL := hide (fun W' => rplainly_any z W' (by omega))
                rw [Val.open_] at HPL
                have hpl := plainL_len z
                obtain ⟨U1, hU1⟩ : ∃ U1, Hid (toB (beL (kd2 : Int) 4 4) = U1) := ⟨_, rfl⟩
                obtain ⟨U2, hU2⟩ : ∃ U2, Hid (toB (plainL z) = U2) := ⟨_, rfl⟩
                have hU1s : U1.size ≤ 4 := by rw [← unhide hU1, toB_size, beL_len]; omega
                have hU2s : U2.size ≤ 1008 := by rw [← unhide hU2, toB_size]; omega
                have HNR : Hid (R ++ (U1 ++ U2) = toB (Rl ++ (beL (kd2 : Int) 4 4 ++ plainL z))) := by
                  show _ = _
                  rw [toB_append, toB_append, unhide hU1, unhide hU2, ← unhide HR]
                have HNS : Hid ((R ++ (U1 ++ U2)).size ≤ 1012 * k) := by
                  show _ ≤ _
                  rw [ByteArray.size_append, ByteArray.size_append]
                  omega
                have hs1 : U1.size + U2.size ≤ 9223372036854775807 := by omega
                have hs2 : R.size + (U1.size + U2.size) ≤ 9223372036854775807 := by omega
                have HNU : Hid (runsO ys.length ys = (Rl ++ (beL (kd2 : Int) 4 4 ++ plainL z)) ++ runsO (ys.drop k).length (ys.drop k)) := by
                  show _ = _
                  rw [unhide HRU, NX.1]
                  simp only [List.append_assoc]
                have HNM : Hid (runsM ys.length ys = (M + 1) + runsM (ys.drop k).length (ys.drop k)) := by
                  show _ = _
                  rw [unhide HRM, NX.2]
                  omega
                rw [unhide hU1] at HBY
                rw [unhide hU2] at HPL
                rcases (unhide RX2).r7 with e | ⟨rb, ro, rfl, hc⟩
                · exfalso; rw [e] at h8; simp at h8
                obtain ⟨c0, c1, c2⟩ := hc i z (unhide HZ)
                have HKI := hide hki
                clear hc hzs NX hkd3 hpl hzs1 hki
                go_upto_region 33 with fail
                have k0 := cell_regrown c0
                have k1 := cell_regrown c1
                have k2 := cell_regrown c2
                clear c0 c1 c2
                go_cut [15] (fun s15 wq => s15 = .string (R ++ (U1 ++ U2)) ∧ Below wx.heap.size wx wq)
                case first =>
                  refine wp_region_quiet_below (by kernel_rfl) (by kernel_rfl) ?_
                  repeat (go_big_quiet_step (first
                    | (go_at_call 32; exact Calls.regrown_of (unhide HBY _))
                    | (go_at_call 83; exact Calls.regrown_of (unhide HPL _))))
                  refine wpQuiet_nil ?_
                  intro w' hw'
                  have hB : Below wx.heap.size wx w' := by obtain ⟨p, rfl⟩ := hw'; exact below_regrown _ _ _
                  clear hw'
                  go_wp2
                  go_meet
                  exact ⟨rfl, hB⟩
                case rest =>
                  obtain ⟨rfl, hbq⟩ := hcut
                  rename World => wq
                  have HBQ := hide (below_step (below_step (unhide HBI) (unhide HBX)) hbq)
                  clear hbq k0 k1 k2
                  go_wp2
                  go_roundw
                  case rel => exact ⟨k, M + 1, _, _, rfl, by go_num, rfl, hkn, by have := unhide HKI; omega, unhide HNS, HNR, HNU, HNM, unhide HBQ⟩
                  case measure => have := unhide HKI; first | (simp [intOf]; omega) | (simp only [intOf]; omega)
              · have hkl : k < ys.length ∧ ordV (atL ys k) z = 0 := by have h3 := (unhide hbb).symm; simpa using h3
                have HQ2 : Hid (∀ q y, i ≤ q → q < k + 1 → ys[q]? = some y → ordV y z = 0) := fun q y h1 h2 h3 => by
                  by_cases h : q < k
                  · exact unhide HQ q y h1 h h3
                  · have e : q = k := by omega
                    rw [e] at h3
                    rw [← atL_of h3]
                    exact hkl.2
                have hk9 := hkl.1
                clear hkl
                go_wp2
                go_roundw
                case rel => exact ⟨k + 1, by go_num, by omega, by omega, HQ2, unhide HBX⟩
                case measure => first | (simp [intOf]; omega) | (simp only [intOf]; omega)
        · have h9 : ¬ (i : Int) < (ys.length : Int) := by omega
          have hie : i = ys.length := by omega
          have hd0 : ys.drop i = [] := List.drop_eq_nil_of_le (by omega)
          have hMi2 : (M : Int) ≤ 4096 := by omega
          have HBY := hide (fun W' => rbytes_any (M : Int) 4 W' (by omega))
          obtain ⟨U1, hU1⟩ : ∃ U1, Hid (toB (beL (M : Int) 4 4) = U1) := ⟨_, rfl⟩
          have hU1s : U1.size ≤ 4 := by rw [← unhide hU1, toB_size, beL_len]; omega
          have hs1 : U1.size + R.size ≤ 9223372036854775807 := by omega
          have hs2 : T0.size + (U1.size + R.size) ≤ 9223372036854775807 := by omega
          have HFN : Hid (T0 ++ (U1 ++ R) = toB (headB 2 kd xs ++ (beL (runsM ys.length ys : Int) 4 4 ++ runsO ys.length ys))) := by
            show _ = _
            have h1 := unhide HRU
            have h2 := unhide HRM
            rw [hd0] at h1 h2
            simp only [List.length_nil, runsO, runsM, List.append_nil, Nat.add_zero] at h1 h2
            rw [h1, h2, toB_append, toB_append, unhide hT0, unhide hU1, unhide HR]
          rw [unhide hU1] at HBY
          have HBE := hide (below_step (unhide RY).bel hb)
          clear hb hie hd0
          go_wp2_with (go_at_call 32; refine (unhide HBY _).mono ?_; rintro e w7 ⟨rfl, hb7⟩; replace hb7 := hide hb7)
          refine bodyPost_ret (v := .tuple #[.string (T0 ++ (U1 ++ R)), .int .i64 0]) (by simp [results, Tryz.results62, go_sem]) rfl ⟨_, by rw [unhide HFN], .inr (.inl ⟨rfl, rfl⟩), below_step (unhide HBE) (unhide hb7)⟩
end Go.Proofs.YthbfomcmjjnikaaGreat
