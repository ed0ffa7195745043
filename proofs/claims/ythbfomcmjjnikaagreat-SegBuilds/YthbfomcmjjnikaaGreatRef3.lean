import Derived.Test.YthbfomcmjjnikaaGreatRefD
set_option linter.unusedSimpArgs false
set_option linter.unusedVariables false
namespace Go.Proofs.YthbfomcmjjnikaaGreat
open Go.RowKit Go.Sort

set_option maxHeartbeats 8000000 in
set_option maxRecDepth 100000 in
theorem rwrite3 (X : Vc) (p : Sl) (kd : Nat) (w : World) (hs : small X) (hp : VecAt w X p) (hg : goodB X = true) (hk : X.k = (kd : Int)) (hkd : kd = 1 ∨ kd = 2) (h4 : ¬ (3 = 4 ∧ kd = 2)) (hl : X.nl.length ≤ 4096) :
    Calls Tryz.prog 62 #[vecV X p, .int .i64 3] w fun e w' => ∃ b, e = .returned (.tuple #[.string (toB (headB 3 kd (valsV X) ++ b)), .int .i64 0]) ∧ RBody 3 (standL (valsV X)) b ∧ Below w.heap.size w w' := by
  rw [vecV_open]
  have bl := below_alloc (Below.refl _ w) (.cells #[.int .i64 X.k, .slice p.a1 X.nl.length p.c1, .slice p.a2 X.ns.length p.c2, .slice p.a3 X.ss.length p.c3] 49)
  have HG := hide (rgood_any X p _ hs (hp.later bl))
  rw [vecV_open] at HG
  rw [hg] at HG
  have HVL : Hid ((valsV X).length = X.nl.length) := vals_len hg
  have hnl : X.nl.length ≤ 1048576 := hs.1
  have FACT : Hid (∀ w1, Below (w.alloc (.cells #[.int .i64 X.k, .slice p.a1 X.nl.length p.c1, .slice p.a2 X.ns.length p.c2, .slice p.a3 X.ss.length p.c3] 49)).heap.size (w.alloc (.cells #[.int .i64 X.k, .slice p.a1 X.nl.length p.c1, .slice p.a2 X.ns.length p.c2, .slice p.a3 X.ss.length p.c3] 49)) w1 → (w1.cell? ⟨w.heap.size, 0, none⟩ = some (.int .i64 X.k) ∧ w1.cell? ⟨w.heap.size, 1, none⟩ = some (.slice p.a1 X.nl.length p.c1) ∧ w1.cell? ⟨w.heap.size, 2, none⟩ = some (.slice p.a2 X.ns.length p.c2) ∧ w1.cell? ⟨w.heap.size, 3, none⟩ = some (.slice p.a3 X.ss.length p.c3)) ∧ Hid (Below w.heap.size w w1)) := fun w1 hb1 => by
    obtain ⟨hc1, _⟩ := bcell hb1
    refine ⟨⟨?_, ?_, ?_, ?_⟩, below_step bl hb1⟩ <;> (rw [hc1 _ _ (by simp)]; simp [go_sem])
  have HV : Hid (∀ W, Hid (Below w.heap.size w W) → Calls Tryz.prog 63 #[.agg #[.int .i64 X.k, .slice p.a1 X.nl.length p.c1, .slice p.a2 X.ns.length p.c2, .slice p.a3 X.ss.length p.c3]] W fun e w' => ∃ a6 c6, e = .returned (.slice a6 X.nl.length c6) ∧ Hid (RowAt w' a6 (valsV X)) ∧ Hid (Below W.heap.size W w')) := fun W hW => by
    have := rvalues_any X p W hs (hp.later hW)
    rw [vecV_open] at this
    refine this.mono fun e w' ⟨v, he, h1, h2⟩ => ?_
    obtain ⟨a6, c6, rfl, _, _, hr⟩ := ownV_slice h1
    rw [vals_len hg] at he
    exact ⟨a6, c6, he, hr, h2⟩
  have HST : Hid (∀ W a6 c6, Hid (RowAt W a6 (valsV X)) → Hid (Below w.heap.size w W) → Calls Tryz.prog 65 #[.slice a6 X.nl.length c6] W fun e w' => ∃ a7 c7, e = .returned (.slice a7 (standL (valsV X)).length c7) ∧ Hid (OwnV w' W.heap.size (.slice a7 (standL (valsV X)).length c7) (standL (valsV X))) ∧ Hid (Below W.heap.size W w')) := fun W a6 c6 hr hW => by
    have := stand_any a6 c6 (valsV X) W (by rw [vals_len hg]; exact hnl) hr
    rw [vals_len hg] at this
    refine this.mono fun e w' ⟨v, he, h1, h2⟩ => ?_
    obtain ⟨a7, c7, rfl, _, _, _⟩ := ownV_slice h1
    exact ⟨a7, c7, he, h1, h2⟩
  have HUN : Hid (∀ W B a7 c7, Hid (OwnV W B (.slice a7 (standL (valsV X)).length c7) (standL (valsV X))) → Hid (Below w.heap.size w W) → Calls Tryz.prog 64 #[.slice a7 (standL (valsV X)).length c7] W fun e w' => ∃ S a8 c8, e = .returned (.slice a8 (unlT S S.length).length c8) ∧ Hid (S.Perm (standL (valsV X)) ∧ Rises S) ∧ Hid (RowAt w' a8 (unlT S S.length)) ∧ Hid (Below W.heap.size W w')) := fun W B a7 c7 ho hW => by
    refine (unlike_any B (standL (valsV X)) _ W (Nat.le_trans (stand_len _) (by rw [vals_len hg]; exact hnl)) ho).mono fun e w' ⟨S, v, he, h1, h2, h3⟩ => ?_
    obtain ⟨a8, c8, rfl, _, _, hr⟩ := ownV_slice h2
    exact ⟨S, a8, c8, he, h1, hr, h3⟩
  have i0 : ¬ (4096 : Int) < (X.nl.length : Int) := by omega
  have HSZ : Hid (∀ x ∈ standL (valsV X), x.s.size ≤ 1000) := fun x hx => vals_size hg (List.mem_filter.1 hx).1
  have HYL : Hid ((standL (valsV X)).length ≤ 4096) := Nat.le_trans (stand_len _) (by rw [vals_len hg]; exact hl)
  have HH2 := hide (head2 3 kd (by omega) (by omega))
  have hkd2 : (kd : Int) ≤ 2 := by omega
  obtain ⟨ys, hys⟩ : ∃ ys, Hid (ys = standL (valsV X)) := ⟨_, rfl⟩
  rw [← unhide hys] at HST HUN HSZ HYL ⊢
  obtain ⟨xs, hxs⟩ : ∃ xs, Hid (xs = valsV X) := ⟨_, rfl⟩
  rw [← unhide hxs] at HV HST HVL ⊢
  rw [hk] at FACT HG HV ⊢
  have HYX : Hid (ys = standL xs) := by show _ = _; rw [unhide hys, unhide hxs]
  have HUL : Hid (∀ S : List Val, S.Perm ys → (unlT S S.length).length ≤ 4096) := fun S hp => Nat.le_trans (unlT_len S S.length) (by rw [hp.length_eq]; exact unhide HYL)
  clear hg bl hs hp hk hkd h4
  go_enter Tryz.func62, Tryz.ntmps62
  go_upto_region 8 with (first
    | (go_at_call 68; refine (unhide HG).mono ?_; rintro e w1 ⟨rfl, hb1⟩; obtain ⟨⟨c0, c1, c2, c3⟩, hbb⟩ := unhide FACT _ hb1; clear hb1)
    | (go_at_call 63; refine (unhide HV _ hbb).mono ?_; rintro e w2 ⟨a6, c6, rfl, R6, hb2⟩; have hbw2 := hide (below_step (unhide hbb) (unhide hb2)))
    | (go_at_call 65; refine (unhide HST _ _ _ R6 hbw2).mono ?_; rintro e w3 ⟨a7, c7, rfl, R7, hb3⟩; have hbw3 := hide (below_step (unhide hbw2) (unhide hb3)))
    | (go_at_call 64; refine (unhide HUN _ _ _ _ R7 hbw3).mono ?_; rintro e w4 ⟨S, a8, c8, rfl, HS, R8, hb4⟩; have hWl : ((unlT S S.length).length : Int) ≤ 4096 := (by have := unhide HUL S (unhide HS).1; omega))
    | fail)
  obtain ⟨W5, hW5⟩ : ∃ W5, Hid (W5 = w4.alloc (.cells #[.slice a8 (unlT S S.length).length c8] 37)) := ⟨_, rfl⟩
  have RS : Hid (RSt w W5 (kd : Int) xs ys (unlT S S.length) a6 a7 a8 c8 w4.heap.size) := by
    have b5 : Below w4.heap.size w4 W5 := by rw [unhide hW5]; exact below_alloc (Below.refl _ _) _
    obtain ⟨a7', c7', e7, _, _, r7⟩ := ownV_slice (unhide R7)
    injection e7 with e7 _ _
    subst e7
    exact ⟨cell_later b5 (cell_later (unhide hb4) (cell_later (unhide hb3) (cell_later (unhide hb2) c0))), (((unhide R6).later (unhide hb3)).later (unhide hb4)).later b5, (r7.later (unhide hb4)).later b5, (unhide R8).later b5, by rw [unhide hW5]; simp [go_sem], below_step (below_step (unhide hbw3) (unhide hb4)) b5⟩
  rw [← unhide hW5]
  have hS7 := (unhide RS).k0
  have HWP : Hid (∃ S, S.Perm ys ∧ Rises S ∧ unlT S S.length = unlT S S.length) := ⟨S, (unhide HS).1, (unhide HS).2, rfl⟩
  obtain ⟨Wd, hWd⟩ : ∃ Wd, Hid (Wd = unlT S S.length) := ⟨_, rfl⟩
  rw [← unhide hWd] at RS hWl ⊢
  obtain ⟨B8, hB8⟩ : ∃ B8, Hid (B8 = w4.heap.size) := ⟨_, rfl⟩
  rw [← unhide hB8] at RS ⊢
  clear c0 c1 c2 c3 hbb hb2 hb3 hb4 hbw2 hbw3 R6 R7 R8 hW5 FACT HV HST HUN HG HUL hnl hB8 HWP
  go_cut [9] (fun s9 wx => s9 = .string (toB ((beL (3 : Int) 1 1 ++ beL (kd : Int) 1 1) ++ beL (X.nl.length : Int) 4 4)) ∧ Hid (RSt w wx (kd : Int) xs ys Wd a6 a7 a8 c8 B8))
  case first =>
    have hkdn : (kd : Int) ≤ 2 ∧ 0 ≤ (kd : Int) := by omega
    have HBY := hide (fun W' => rbytes_any (X.nl.length : Int) 4 W' (by omega))
    obtain ⟨T1, hT1⟩ : ∃ T1, Hid (toB [(3 : Int), (kd : Int)] = T1) := ⟨_, rfl⟩
    obtain ⟨T2, hT2⟩ : ∃ T2, Hid (toB (beL (X.nl.length : Int) 4 4) = T2) := ⟨_, rfl⟩
    have hTs : T1.size + T2.size ≤ 9223372036854775807 := by rw [← unhide hT1, ← unhide hT2, toB_size, toB_size, beL_len]; simp
    have hTT : Hid (T1 ++ T2 = toB ((beL (3 : Int) 1 1 ++ beL (kd : Int) 1 1) ++ beL (X.nl.length : Int) 4 4)) := by
      show _ = _
      rw [← unhide hT1, ← unhide hT2, toB_append]
      exact congrArg (· ++ toB (beL (X.nl.length : Int) 4 4)) (unhide HH2)
    rw [unhide hT2] at HBY
    have hS0 : (fun w' : World => w'.cell? ⟨w.heap.size, 0, none⟩ = some (.int .i64 (kd : Int))) W5.drew := hS7
    have RSC : Hid (RSt w W5.drew (kd : Int) xs ys Wd a6 a7 a8 c8 B8) := (unhide RS).later ((Below.refl _ _).drew)
    clear hS7 RS
    refine wp_region_noPanic ?_
    refine wp_region_G (S := fun w' : World => w'.cell? ⟨w.heap.size, 0, none⟩ = some (.int .i64 (kd : Int))) (k := 11) (by kernel_rfl) ?_
    refine anyG_takel (i := 0) (v := (.int .i64 3)) [1, 5, 6, 11] rfl (by kernel_rfl) (by kernel_rfl) (by kernel_rfl) (by kernel_rfl) (fun _ _ _ h => h) (Or.inl ⟨by rfl, fun w' hSw => ?_⟩) hS0 ?_
    · dsimp only at hSw; go_simp; try (first | exact wrap8 hkdn | rfl | exact wrap_size (by omega))
    try simp only [Act.put, List.setIfInBounds_toArray, List.set_cons_zero, List.set_cons_succ]
    refine anyG_takel (i := 1) (v := (.int .u8 3)) [5, 6, 11] rfl (by kernel_rfl) (by kernel_rfl) (by kernel_rfl) (by kernel_rfl) (fun _ _ _ h => h) (Or.inl ⟨by rfl, fun w' hSw => ?_⟩) hS0 ?_
    · dsimp only at hSw; go_simp; try (first | exact wrap8 hkdn | rfl | exact wrap_size (by omega))
    try simp only [Act.put, List.setIfInBounds_toArray, List.set_cons_zero, List.set_cons_succ]
    refine anyG_takel (i := 2) (v := (.pointer (some ⟨w.heap.size, 0, none⟩))) [3, 4, 5, 6, 11] rfl (by kernel_rfl) (by kernel_rfl) (by kernel_rfl) (by kernel_rfl) (fun _ _ _ h => h) (Or.inl ⟨by rfl, fun w' hSw => ?_⟩) hS0 ?_
    · dsimp only at hSw; go_simp; try (first | exact wrap8 hkdn | rfl | exact wrap_size (by omega))
    try simp only [Act.put, List.setIfInBounds_toArray, List.set_cons_zero, List.set_cons_succ]
    refine anyG_takel (i := 3) (v := (.int .i64 (kd : Int))) [4, 5, 6, 11] rfl (by kernel_rfl) (by kernel_rfl) (by kernel_rfl) (by kernel_rfl) (fun _ _ _ h => h) (Or.inl ⟨by rfl, fun w' hSw => ?_⟩) hS0 ?_
    · dsimp only at hSw; go_simp; try (first | exact wrap8 hkdn | rfl | exact wrap_size (by omega))
    try simp only [Act.put, List.setIfInBounds_toArray, List.set_cons_zero, List.set_cons_succ]
    refine anyG_takel (i := 4) (v := (.int .u8 (kd : Int))) [5, 6, 11] rfl (by kernel_rfl) (by kernel_rfl) (by kernel_rfl) (by kernel_rfl) (fun _ _ _ h => h) (Or.inl ⟨by rfl, fun w' hSw => ?_⟩) hS0 ?_
    · dsimp only at hSw; go_simp; try (first | exact wrap8 hkdn | rfl | exact wrap_size (by omega))
    try simp only [Act.put, List.setIfInBounds_toArray, List.set_cons_zero, List.set_cons_succ]
    refine anyG_takel (i := 7) (v := (.slice a6 X.nl.length c6)) [8, 9, 10, 11] rfl (by kernel_rfl) (by kernel_rfl) (by kernel_rfl) (by kernel_rfl) (fun _ _ _ h => h) (Or.inl ⟨by rfl, fun w' hSw => ?_⟩) hS0 ?_
    · dsimp only at hSw; go_simp; try (first | exact wrap8 hkdn | rfl | exact wrap_size (by omega))
    try simp only [Act.put, List.setIfInBounds_toArray, List.set_cons_zero, List.set_cons_succ]
    refine anyG_takel (i := 8) (v := (.int .i64 X.nl.length)) [9, 10, 11] rfl (by kernel_rfl) (by kernel_rfl) (by kernel_rfl) (by kernel_rfl) (fun _ _ _ h => h) (Or.inl ⟨by rfl, fun w' hSw => ?_⟩) hS0 ?_
    · dsimp only at hSw; go_simp; try (first | exact wrap8 hkdn | rfl | exact wrap_size (by omega))
    try simp only [Act.put, List.setIfInBounds_toArray, List.set_cons_zero, List.set_cons_succ]
    refine anyG_takel (i := 9) (v := (.int .u64 X.nl.length)) [10, 11] rfl (by kernel_rfl) (by kernel_rfl) (by kernel_rfl) (by kernel_rfl) (fun _ _ _ h => h) (Or.inl ⟨by rfl, fun w' hSw => ?_⟩) hS0 ?_
    · dsimp only at hSw; go_simp; try (first | exact wrap8 hkdn | rfl | exact wrap_size (by omega))
    try simp only [Act.put, List.setIfInBounds_toArray, List.set_cons_zero, List.set_cons_succ]
    clear hS0
    refine anyG_many [5, 10] (by kernel_rfl) (by simp) ?_
    intro i hi
    simp only [List.mem_cons, List.not_mem_nil, or_false] at hi
    rcases hi with rfl | rfl
    · refine wpOp_lit rfl (by rfl) fun K hK => ?_
      go_simp
      have HOB : Hid (OwnB (W5.alloc (.cells #[.int .u8 (3 : Int), .int .u8 (kd : Int)] 5)).drew 0 (.slice (some ⟨W5.heap.size, 0, none⟩) 2 2) [(3 : Int), (kd : Int)]) := World.ownsRow.drew (two_own W5 (3 : Int) (kd : Int))
      have RSB : Hid (RSt w (W5.alloc (.cells #[.int .u8 (3 : Int), .int .u8 (kd : Int)] 5)).drew (kd : Int) xs ys Wd a6 a7 a8 c8 B8) := (unhide RSC).later ((below_alloc (Below.refl _ W5.drew) (.cells #[.int .u8 (3 : Int), .int .u8 (kd : Int)] 5)))
      refine unhide hK _ _ ⟨fun _ => (unhide RSB).k0, ?_⟩
      clear hK K
      generalize hWB : (W5.alloc (.cells #[.int .u8 (3 : Int), .int .u8 (kd : Int)] 5)).drew = WB at *
      clear hWB
      refine anyG_many [6, 10] (by kernel_rfl) (by simp) ?_
      intro i hi
      simp only [List.mem_cons, List.not_mem_nil, or_false] at hi
      rcases hi with rfl | rfl
      · refine wpOp_lit rfl (by rfl) fun K hK => ?_
        have hcv := convert_own (unhide HOB)
        rw [unhide hT1] at hcv
        go_simp
        refine unhide hK _ _ ⟨fun _ => (unhide RSB).k0, ?_⟩
        clear hK K hcv
        refine anyG_one (i := 10) (by kernel_rfl) ?_
        refine wpOp_lit rfl (by rfl) fun K hK => ?_
        go_simp
        refine (unhide HBY _).mono ?_
        rintro e w9 ⟨rfl, hb9⟩
        have RS9 := hide ((unhide RSB).later hb9)
        clear hb9
        go_simp
        refine unhide hK _ _ ⟨fun _ => (unhide RS9).k0, ?_⟩
        clear hK K
        refine anyG_one (i := 11) (by kernel_rfl) ?_
        refine wpOp_lit rfl (by rfl) fun K hK => ?_
        go_simp
        rw [if_neg (Nat.not_lt.2 hTs)]
        go_simp
        refine unhide hK _ _ ⟨fun hh => absurd hh (by decide), ?_⟩
        clear hK K
        refine anyG_one (i := 12) (by kernel_rfl) ?_
        refine wpOp_lit rfl (by rfl) fun K hK => ?_
        go_simp
        refine unhide hK _ _ ⟨fun hh => absurd hh (by decide), ?_⟩
        clear hK K
        refine anyG_done (by kernel_rfl) ?_ _
        refine NoPanic.normal ?_
        go_wp2
        go_meet
        exact ⟨by rw [unhide hTT], unhide RS9⟩
      · refine wpOp_lit rfl (by rfl) fun K hK => ?_
        go_simp
        refine (unhide HBY _).mono ?_
        rintro e w9 ⟨rfl, hb9⟩
        have RS9 := hide ((unhide RSB).later hb9)
        replace HOB := hide (own_later (unhide HOB) hb9)
        clear hb9
        go_simp
        refine unhide hK _ _ ⟨fun _ => (unhide RS9).k0, ?_⟩
        clear hK K
        refine anyG_one (i := 6) (by kernel_rfl) ?_
        refine wpOp_lit rfl (by rfl) fun K hK => ?_
        have hcv := convert_own (unhide HOB)
        rw [unhide hT1] at hcv
        go_simp
        refine unhide hK _ _ ⟨fun _ => (unhide RS9).k0, ?_⟩
        clear hK K hcv
        refine anyG_one (i := 11) (by kernel_rfl) ?_
        refine wpOp_lit rfl (by rfl) fun K hK => ?_
        go_simp
        rw [if_neg (Nat.not_lt.2 hTs)]
        go_simp
        refine unhide hK _ _ ⟨fun hh => absurd hh (by decide), ?_⟩
        clear hK K
        refine anyG_one (i := 12) (by kernel_rfl) ?_
        refine wpOp_lit rfl (by rfl) fun K hK => ?_
        go_simp
        refine unhide hK _ _ ⟨fun hh => absurd hh (by decide), ?_⟩
        clear hK K
        refine anyG_done (by kernel_rfl) ?_ _
        refine NoPanic.normal ?_
        go_wp2
        go_meet
        exact ⟨by rw [unhide hTT], unhide RS9⟩
    · refine wpOp_lit rfl (by rfl) fun K hK => ?_
      go_simp
      refine (unhide HBY _).mono ?_
      rintro e w9 ⟨rfl, hb9⟩
      have RS9 := hide ((unhide RSC).later hb9)
      clear hb9
      go_simp
      refine unhide hK _ _ ⟨fun _ => (unhide RS9).k0, ?_⟩
      clear hK K
      refine anyG_one (i := 5) (by kernel_rfl) ?_
      refine wpOp_lit rfl (by rfl) fun K hK => ?_
      go_simp
      have HOB := hide (two_own w9 (3 : Int) (kd : Int))
      have RSB := hide ((unhide RS9).later (below_alloc (Below.refl _ w9) (.cells #[.int .u8 (3 : Int), .int .u8 (kd : Int)] 5)))
      refine unhide hK _ _ ⟨fun _ => (unhide RSB).k0, ?_⟩
      clear hK K
      refine anyG_one (i := 6) (by kernel_rfl) ?_
      refine wpOp_lit rfl (by rfl) fun K hK => ?_
      have hcv := convert_own (unhide HOB)
      rw [unhide hT1] at hcv
      go_simp
      refine unhide hK _ _ ⟨fun _ => (unhide RSB).k0, ?_⟩
      clear hK K hcv
      refine anyG_one (i := 11) (by kernel_rfl) ?_
      refine wpOp_lit rfl (by rfl) fun K hK => ?_
      go_simp
      rw [if_neg (Nat.not_lt.2 hTs)]
      go_simp
      refine unhide hK _ _ ⟨fun hh => absurd hh (by decide), ?_⟩
      clear hK K
      refine anyG_one (i := 12) (by kernel_rfl) ?_
      refine wpOp_lit rfl (by rfl) fun K hK => ?_
      go_simp
      refine unhide hK _ _ ⟨fun hh => absurd hh (by decide), ?_⟩
      clear hK K
      refine anyG_done (by kernel_rfl) ?_ _
      refine NoPanic.normal ?_
      go_wp2
      go_meet
      exact ⟨by rw [unhide hTT], unhide RSB⟩
  case rest =>
    obtain ⟨rfl, RX⟩ := hcut
    rename World => wx
    obtain ⟨bb, e85⟩ : ∃ bb, ((ys.length : Int) == (X.nl.length : Int)) = bb := ⟨_, rfl⟩
    go_upto_if 85 with fail
    go_cut [9] (fun s9 wy => s9 = .string (toB (headB 3 kd xs)) ∧ Hid (RSt w wy (kd : Int) xs ys Wd a6 a7 a8 c8 B8))
    case first =>
      have HHD : Hid (toB (headB 3 kd xs) = toB ((beL (3 : Int) 1 1 ++ beL (kd : Int) 1 1) ++ beL (X.nl.length : Int) 4 4) ++ toB (nullsL xs)) := by
        show _ = _
        rw [headB, toB_append, unhide HVL]
        rfl
      obtain ⟨T3, hT3⟩ : ∃ T3, Hid (toB ((beL (3 : Int) 1 1 ++ beL (kd : Int) 1 1) ++ beL (X.nl.length : Int) 4 4) = T3) := ⟨_, rfl⟩
      have hT3s : T3.size ≤ 100 := by rw [← unhide hT3, toB_size, List.length_append, List.length_append, beL_len, beL_len, beL_len]; omega
      rw [unhide hT3] at HHD ⊢
      have HBB := hide e85
      clear e85
      cases bb
      rotate_left 1
      · have hnul : ys.length = X.nl.length := by have h := unhide HBB; simp at h; omega
        have HNL : Hid (toB (nullsL xs) = ⟨#[0]⟩) := by
          show _ = _
          rw [nulls_no (by rw [← unhide HYX, hnul, unhide HVL])]
          rfl
        clear hnul
        go_wp2
        go_meet
        exact ⟨by rw [unhide HHD, unhide HNL], RX⟩
      · have hnul : ¬ ys.length = X.nl.length := by have h := unhide HBB; simp at h; omega
        have HNL : Hid (toB (nullsL xs) = (⟨#[1]⟩ : ByteArray) ++ toB (leB (total 1 (marksN xs)) (bytesN xs.length 1))) := by
          show _ = _
          rw [nulls_yes (by rw [← unhide HYX, unhide HVL]; exact hnul), toB_append]
          rfl
        have HML : Hid ((marksN xs).length = X.nl.length) := by show _ = _; rw [← unhide HVL]; simp [marksN]
        clear hnul
        have hf1 : ∀ W : World, (Instr.field 59 (.agg #[.int .i64 1, .int .i64 1, .string ⟨#[]⟩]) 1).run Tryz.prog W = .ok (.int .i64 1) W := fun _ => by kernel_rfl
        have hf0 : ∀ W : World, (Instr.field 59 (.agg #[.int .i64 1, .int .i64 0, .string ⟨#[]⟩]) 1).run Tryz.prog W = .ok (.int .i64 0) W := fun _ => by kernel_rfl
        go_wp2_with fail
        go_loopw [10, 90] (fun s10 s wr => ∃ k : Nat, k ≤ X.nl.length ∧ s = .int .i64 (k : Int) ∧ OwnU wr wx.heap.size s10 ((marksN xs).take k) ∧ Below wx.heap.size wx wr) (fun _ s _ => X.nl.length - (intOf s).toNat)
        case atStart => exact ⟨0, Nat.zero_le _, rfl, World.ownsRow_nil _ _ _ _, Below.refl _ _⟩
        case round =>
          obtain ⟨k, hk, rfl, ho, hb⟩ := hrel
          by_cases h8 : k < X.nl.length
          · have h9 : (k : Int) < (X.nl.length : Int) := by omega
            obtain ⟨x, hx⟩ : ∃ x, xs[k]? = some x := ⟨_, List.getElem?_eq_getElem (by rw [unhide HVL]; exact h8)⟩
            rcases ((unhide RX).later hb).r6 with e | ⟨rb, ro, rfl, hc⟩
            · rw [e] at hx; cases hx
            obtain ⟨d0, d1, d2⟩ := hc k x hx
            have bl := below_alloc (Below.refl _ wr) (.cells #[.int .i64 x.k, .int .i64 x.n, .string x.s] 59)
            have HO1 := hide (ho.later bl)
            have HB1 := hide (below_step hb bl)
            have hkl : ((marksN xs).take k).length ≤ 1048576 := by rw [List.length_take]; omega
            have HKL := hide hkl
            have HMK : Hid ((marksN xs).take (k + 1) = (marksN xs).take k ++ [if nullB x then 1 else 0]) := by
              show _ = _
              have h2 : (marksN xs)[k]? = some (if nullB x then 1 else 0) := by simp [marksN, hx]
              obtain ⟨h3, h4⟩ := List.getElem?_eq_some_iff.1 h2
              rw [List.take_succ_eq_append_getElem h3, h4]
            clear hc hx ho hb bl hkl
            rcases Bool.eq_false_or_eq_true (nullB x) with e1 | e1
            · have e2 : (x.k == 0) = true := e1
              rw [e1, if_pos rfl] at HMK
              clear e1
              go_wp2_with (first
                | (go_at_call 81; refine (rtruth_yes _).mono ?_; rintro e w9 ⟨rfl, hb9⟩; have HO9 := hide ((unhide HO1).later hb9); have HB9 := hide (below_step (unhide HB1) hb9); clear hb9)
                | (at_builtin; refine wpList_append_num w9 1 rfl (.tmp 94) (.tmp 101) rfl wx.heap.size _ _ rfl rfl (unhide HO9) (unhide HKL) (unhide HB9).size ?_; intro v1 w8 g1 g2; replace g1 := hide g1; replace g2 := hide g2))
              go_roundw
              case rel => exact ⟨k + 1, by omega, by go_num, by rw [unhide HMK]; exact unhide g1, (unhide HB9).trans (unhide g2)⟩
              case measure => first | (simp [intOf]; omega) | (simp only [intOf]; omega)
            · have e2 : (x.k == 0) = false := e1
              rw [e1, if_neg (by simp)] at HMK
              clear e1
              go_wp2_with (first
                | (go_at_call 81; refine (rtruth_no _).mono ?_; rintro e w9 ⟨rfl, hb9⟩; have HO9 := hide ((unhide HO1).later hb9); have HB9 := hide (below_step (unhide HB1) hb9); clear hb9)
                | (at_builtin; refine wpList_append_num w9 0 rfl (.tmp 94) (.tmp 101) rfl wx.heap.size _ _ rfl rfl (unhide HO9) (unhide HKL) (unhide HB9).size ?_; intro v1 w8 g1 g2; replace g1 := hide g1; replace g2 := hide g2))
              go_roundw
              case rel => exact ⟨k + 1, by omega, by go_num, by rw [unhide HMK]; exact unhide g1, (unhide HB9).trans (unhide g2)⟩
              case measure => first | (simp [intOf]; omega) | (simp only [intOf]; omega)
          · have h9 : ¬ (k : Int) < (X.nl.length : Int) := by omega
            have hk8 : k = (marksN xs).length := by rw [unhide HML]; omega
            rw [hk8, List.take_length] at ho
            obtain ⟨a10, c10, e10, hlis⟩ := ho.lis
            have HBT := hide (rbits_any a10 c10 (marksN xs) 1 wr (by rw [unhide HML]; omega) (by omega) (fun m hm => by
              obtain ⟨x, _, rfl⟩ := List.mem_map.1 hm
              split <;> decide) hlis)
            have RZ := hide ((unhide RX).later hb)
            subst e10
            obtain ⟨T4, hT4⟩ : ∃ T4, Hid (toB (leB (total 1 (marksN xs)) (bytesN (marksN xs).length 1)) = T4) := ⟨_, rfl⟩
            have hT4s : T4.size ≤ 1000 := by
              rw [← unhide hT4, toB_size, leB_len, unhide HML]
              unfold bytesN
              omega
            have HFN : Hid (toB (headB 3 kd xs) = T3 ++ ((⟨#[1]⟩ : ByteArray) ++ T4)) := by
              show _ = _
              rw [unhide HHD, unhide HNL, ← unhide hT4, unhide HML, unhide HVL]
            rw [unhide hT4] at HBT
            have hone : ((⟨#[1]⟩ : ByteArray) ++ T4).size = 1 + T4.size := by rw [ByteArray.size_append]; rfl
            clear ho hb hk8 hlis HHD HNL
            go_wp2_with (go_at_call 82; refine (unhide HBT).mono ?_; rintro e w7 ⟨rfl, hb7⟩; replace hb7 := hide hb7)
            go_meet
            exact ⟨by rw [unhide HFN], (unhide RZ).later (unhide hb7)⟩
    case rest =>
      obtain ⟨rfl, RY⟩ := hcut
      clear e85
      rename World => wy
      have hyl := unhide HYL
      have HWM : Hid (∀ x ∈ Wd, x ∈ ys) := fun x hx => by rw [unhide hWd] at hx; exact (unhide HS).1.mem_iff.1 ((unl_sub S).mem hx)
      have HWR : Hid (Rises Wd) := by rw [unhide hWd]; exact (unhide HS).2.sublist (unl_sub S)
      have HHL : Hid ((toB (headB 3 kd xs)).size ≤ 1000000) := by
        show _ ≤ _
        rw [toB_size]
        have := nulls_len xs (by rw [unhide HVL]; exact hl)
        simp only [headB, List.length_append, beL_len]
        omega
      have HBY := hide (fun W' => rbytes_any (Wd.length : Int) 2 W' (by omega))
      obtain ⟨T5, hT5⟩ : ∃ T5, Hid (toB (beL (Wd.length : Int) 2 2) = T5) := ⟨_, rfl⟩
      have hT5s : T5.size = 2 := by rw [← unhide hT5, toB_size, beL_len]
      obtain ⟨T0, hT0⟩ : ∃ T0, Hid (toB (headB 3 kd xs) = T0) := ⟨_, rfl⟩
      have hT0s : T0.size ≤ 1000000 := by rw [← unhide hT0]; exact unhide HHL
      have HT05 : Hid (T0 ++ T5 = toB (headB 3 kd xs ++ beL (Wd.length : Int) 2 2)) := by show _ = _; rw [toB_append, unhide hT0, unhide hT5]
      have HT05s : Hid ((T0 ++ T5).size ≤ 1000002) := by show _ ≤ _; rw [ByteArray.size_append]; omega
      rw [unhide hT5] at HBY
      rw [unhide hT0]
      have cB := (unhide RY).b8
      go_upto_region 39 with (first | (go_at_call 32; refine (unhide HBY _).mono ?_; rintro e wz ⟨rfl, hbz⟩; have RZ := hide ((unhide RY).later hbz); have cBz := (unhide RZ).b8; clear hbz) | fail)
      clear cB
      go_wp2_with fail
      clear cBz
      go_loopw [9, 181] (fun s9 s wr => ∃ (k : Nat) (T : ByteArray), k ≤ Wd.length ∧ s = .int .i64 (k : Int) ∧ s9 = .string T ∧ T.size ≤ 1000002 + 1008 * k ∧ Hid (T = toB (headB 3 kd xs ++ (beL (Wd.length : Int) 2 2 ++ plains (Wd.take k)))) ∧ Below wz.heap.size wz wr) (fun _ s _ => Wd.length - (intOf s).toNat)
      case atStart => exact ⟨0, _, Nat.zero_le _, rfl, rfl, unhide HT05s, by rw [List.take_zero, plains, List.flatMap_nil, List.append_nil]; exact HT05, Below.refl _ _⟩
      case round =>
        obtain ⟨k, T, hk, rfl, rfl, hTs, HT, hb⟩ := hrel
        by_cases h8 : k < Wd.length
        · have h9 : (k : Int) < (Wd.length : Int) := by omega
          obtain ⟨x, hx⟩ : ∃ x, Wd[k]? = some x := ⟨_, List.getElem?_eq_getElem h8⟩
          rcases ((unhide RZ).later hb).r8 with e | ⟨rb, ro, rfl, hc⟩
          · rw [e] at hx; cases hx
          obtain ⟨d0, d1, d2⟩ := hc k x hx
          have hxs1 := unhide HSZ x (unhide HWM x (List.mem_of_getElem? hx))
          have HP := hide (fun W' => rplainly_any x W' (by omega))
          rw [Val.open_] at HP
          have HPN := hide (plains_next hx)
          have hpl := plainL_len x
          obtain ⟨U, hU⟩ : ∃ U, Hid (toB (plainL x) = U) := ⟨_, rfl⟩
          have hUs : U.size ≤ 1008 := by rw [← unhide hU, toB_size]; omega
          have HTU : Hid (T ++ U = toB (headB 3 kd xs ++ (beL (Wd.length : Int) 2 2 ++ plains (Wd.take (k + 1))))) := by
            show _ = _
            rw [unhide HT, unhide HPN, ← unhide hU, ← toB_append]
            simp only [List.append_assoc]
          have HTUs : Hid ((T ++ U).size ≤ 1000002 + 1008 * (k + 1)) := by
            show _ ≤ _
            rw [ByteArray.size_append]
            omega
          rw [unhide hU] at HP
          have hsum : T.size + U.size ≤ 9223372036854775807 := by omega
          have HB1 := hide (below_alloc hb (.cells #[.int .i64 x.k, .int .i64 x.n, .string x.s] 59))
          clear hc hx hb hpl hxs1
          go_wp2_with (go_at_call 83; refine (unhide HP _).mono ?_; rintro e w9 ⟨rfl, hb9⟩; have HB9 := hide (below_step (unhide HB1) hb9); clear hb9)
          go_roundw
          case rel => exact ⟨k + 1, _, by omega, by go_num, rfl, unhide HTUs, HTU, unhide HB9⟩
          case measure => first | (simp [intOf]; omega) | (simp only [intOf]; omega)
        · have h9 : ¬ (k : Int) < (Wd.length : Int) := by omega
          have hk8 : k = Wd.length := by omega
          rw [hk8, List.take_length] at HT
          have hTs2 : T.size ≤ 10000000 := by omega
          have RW2 := hide ((unhide RZ).later hb)
          have HW4 : Hid (Wd.length ≤ 4096) := by show _ ≤ _; omega
          obtain ⟨w6, hw6⟩ : ∃ w6, Hid (w6 = wr) := ⟨_, rfl⟩
          rw [← unhide hw6] at RW2 ⊢
          clear hb hk8 hTs hw6
          go_wp2_with fail
          go_loopw [21, 192] (fun s21 s wr => ∃ k : Nat, k ≤ ys.length ∧ s = .int .i64 (k : Int) ∧ OwnU wr w6.heap.size s21 ((ys.map (posN Wd)).take k) ∧ Below w6.heap.size w6 wr) (fun _ s _ => ys.length - (intOf s).toNat)
          case atStart => exact ⟨0, Nat.zero_le _, rfl, World.ownsRow_nil _ _ _ _, Below.refl _ _⟩
          case round =>
            obtain ⟨k, hk, rfl, ho, hb⟩ := hrel
            by_cases h8 : k < ys.length
            · have h9 : (k : Int) < (ys.length : Int) := by omega
              obtain ⟨x, hx⟩ : ∃ x, ys[k]? = some x := ⟨_, List.getElem?_eq_getElem h8⟩
              have RW3 := (unhide RW2).later hb
              rcases RW3.r7 with e | ⟨rb, ro, rfl, hc⟩
              · rw [e] at hx; cases hx
              obtain ⟨d0, d1, d2⟩ := hc k x hx
              have bl := below_alloc (Below.refl _ wr) (.cells #[.int .i64 x.k, .int .i64 x.n, .string x.s] 59)
              have RW4 := RW3.later bl
              have cB := RW4.b8
              have HSE := hide (search_any Wd x a8 c8 B8 wr.heap.size (wr.alloc (.cells #[.int .i64 x.k, .int .i64 x.n, .string x.s] 59)) (by have := unhide HW4; omega) (unhide HWR) RW4.r8 RW4.b8 ⟨by simp [go_sem], by simp [go_sem], by simp [go_sem]⟩)
              have HO1 := hide (ho.later bl)
              have HB1 := hide (below_step hb bl)
              have HKL : Hid (((ys.map (posN Wd)).take k).length ≤ 1048576) := by show _ ≤ _; rw [List.length_take]; have := unhide HYL; omega
              have HMK : Hid ((ys.map (posN Wd)).take (k + 1) = (ys.map (posN Wd)).take k ++ [posN Wd x]) := by
                show _ = _
                have h2 : (ys.map (posN Wd))[k]? = some (posN Wd x) := by simp [hx]
                obtain ⟨h3, h4⟩ := List.getElem?_eq_some_iff.1 h2
                rw [List.take_succ_eq_append_getElem h3, h4]
              have hpp : (posN Wd x : Int) ≤ 4096 := by
                have h5 : posN Wd x ≤ Wd.length := (List.takeWhile_prefix _).length_le
                have := unhide HW4
                omega
              generalize posN Wd x = pp at *
              clear hc hx ho hb bl RW3 RW4
              go_wp2_with (first
                | (go_at_call 85; refine (unhide HSE).mono ?_; rintro e w9 ⟨rfl, hb9⟩; have HO9 := hide ((unhide HO1).later hb9); have HB9 := hide (below_step (unhide HB1) hb9); clear hb9)
                | (at_builtin; refine wpList_append_num w9 pp rfl (.tmp 200) (.tmp 203) rfl w6.heap.size _ _ rfl rfl (unhide HO9) (unhide HKL) (unhide HB9).size ?_; intro v1 w8 g1 g2; replace g1 := hide g1; replace g2 := hide g2))
              go_roundw
              case rel => exact ⟨k + 1, by omega, by go_num, by rw [unhide HMK]; exact unhide g1, (unhide HB9).trans (unhide g2)⟩
              case measure => first | (simp [intOf]; omega) | (simp only [intOf]; omega)
            · have h9 : ¬ (k : Int) < (ys.length : Int) := by omega
              have hk8 : k = (ys.map (posN Wd)).length := by rw [List.length_map]; omega
              rw [hk8, List.take_length] at ho
              obtain ⟨a10, c10, e10, hlis⟩ := ho.lis
              have hd64 : bl (Wd.length - 1) ≤ 64 := bl_le (Nat.lt_of_le_of_lt (show Wd.length - 1 ≤ 4096 by have := unhide HW4; omega) (by decide))
              have HBT := hide (rbits_any a10 c10 (ys.map (posN Wd)) (bl (Wd.length - 1)) wr (by rw [List.length_map]; have := unhide HYL; omega) hd64 (fun m hm => by
                obtain ⟨x, _, rfl⟩ := List.mem_map.1 hm
                have h5 : posN Wd x ≤ Wd.length := (List.takeWhile_prefix _).length_le
                have := unhide HW4
                omega) hlis)
              have RZ3 := (unhide RW2).later hb
              have cB := RZ3.b8
              have HBE := hide RZ3.bel
              subst e10
              rw [List.length_map] at HBT
              obtain ⟨T4, hT4⟩ : ∃ T4, Hid (toB (leB (total (bl (Wd.length - 1)) (ys.map (posN Wd))) (bytesN ys.length (bl (Wd.length - 1)))) = T4) := ⟨_, rfl⟩
              have hT4s : T4.size ≤ 1000000 := by
                rw [← unhide hT4, toB_size, leB_len]
                have h6 := unhide HYL
                have h7 : ys.length * bl (Wd.length - 1) ≤ 4096 * 64 := Nat.mul_le_mul h6 hd64
                unfold bytesN
                omega
              have HFN : Hid (T ++ T4 = toB (headB 3 kd xs ++ wordsB Wd ys)) := by
                show _ = _
                rw [unhide HT, ← unhide hT4, wordsB, ← toB_append, List.append_assoc]
              rw [unhide hT4] at HBT
              have HRW := hide (fun W' => rwidth_any (Wd.length - 1) W' (by have := unhide HW4; omega))
              obtain ⟨D0, hD0⟩ : ∃ D0, Hid (Wd.length - 1 = D0) := ⟨_, rfl⟩
              have e51 : max (Wd.length : Int) 1 - 1 = (D0 : Int) := by rw [← unhide hD0, Int.max_def]; split <;> omega
              have hD0i : (D0 : Int) ≤ 4096 := by rw [← unhide hD0]; have := unhide HW4; omega
              have hmx : max (Wd.length : Int) 1 ≤ 4096 := by have := unhide HW4; rw [Int.max_def]; split <;> omega
              have hmx1 : 1 ≤ max (Wd.length : Int) 1 := by rw [Int.max_def]; split <;> omega
              rw [unhide hD0] at HRW HBT
              generalize bl D0 = DD at *
              have HSS : Hid (∃ S, S.Perm ys ∧ Rises S ∧ wordsB Wd ys = wordsB (unlT S S.length) ys) := ⟨S, (unhide HS).1, (unhide HS).2, by rw [unhide hWd]⟩
              clear ho hb hk8 hlis RZ3
              go_wp2_with (first
                | (go_at_call 87; refine (unhide HRW _).mono ?_; rintro e w7 ⟨rfl, rfl⟩)
                | (go_at_call 82; refine (unhide HBT).mono ?_; rintro e w7 ⟨rfl, hb7⟩; replace hb7 := hide hb7))
              refine bodyPost_ret (v := .tuple #[.string (T ++ T4), .int .i64 0]) (by simp [results, Tryz.results62, go_sem]) rfl ⟨wordsB Wd ys, by rw [unhide HFN], .inr (.inr (.inl ⟨rfl, unhide HSS⟩)), below_step (unhide HBE) (unhide hb7)⟩
end Go.Proofs.YthbfomcmjjnikaaGreat
