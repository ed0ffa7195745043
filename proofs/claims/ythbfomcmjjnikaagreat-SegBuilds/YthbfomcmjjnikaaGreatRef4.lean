import Derived.Test.YthbfomcmjjnikaaGreatRefF
set_option linter.unusedSimpArgs false
set_option linter.unusedVariables false
namespace Go.Proofs.YthbfomcmjjnikaaGreat
open Go.RowKit Go.Sort

set_option maxHeartbeats 8000000 in
set_option maxRecDepth 100000 in
theorem rwrite4 (X : Vc) (p : Sl) (kd : Nat) (w : World) (hs : small X) (hp : VecAt w X p) (hg : goodB X = true) (hk : X.k = (kd : Int)) (hkd : kd = 1 ∨ kd = 2) (h4 : ¬ (4 = 4 ∧ kd = 2)) (hl : X.nl.length ≤ 4096) :
    Calls Tryz.prog 62 #[vecV X p, .int .i64 4] w fun e w' => ∃ b, e = .returned (.tuple #[.string (toB (headB 4 kd (valsV X) ++ b)), .int .i64 0]) ∧ RBody 4 (standL (valsV X)) b ∧ Below w.heap.size w w' := by
  rw [vecV_open]
  have bl := below_alloc (Below.refl _ w) (.cells #[.int .i64 X.k, .slice p.a1 X.nl.length p.c1, .slice p.a2 X.ns.length p.c2, .slice p.a3 X.ss.length p.c3] 49)
  have HG := hide (rgood_any X p _ hs (hp.later bl))
  rw [vecV_open] at HG
  rw [hg] at HG
  have HVL : Hid ((valsV X).length = X.nl.length) := vals_len hg
  have hnl : X.nl.length ≤ 1048576 := hs.1
  have FACT : Hid (∀ w1, Below (w.alloc (.cells #[.int .i64 X.k, .slice p.a1 X.nl.length p.c1, .slice p.a2 X.ns.length p.c2, .slice p.a3 X.ss.length p.c3] 49)).heap.size (w.alloc (.cells #[.int .i64 X.k, .slice p.a1 X.nl.length p.c1, .slice p.a2 X.ns.length p.c2, .slice p.a3 X.ss.length p.c3] 49)) w1 → (w1.cell? ⟨w.heap.size, 0, none⟩ = some (.int .i64 X.k) ∧ w1.cell? ⟨w.heap.size, 1, none⟩ = some (.slice p.a1 X.nl.length p.c1) ∧ w1.cell? ⟨w.heap.size, 2, none⟩ = some (.slice p.a2 X.ns.length p.c2) ∧ w1.cell? ⟨w.heap.size, 3, none⟩ = some (.slice p.a3 X.ss.length p.c3)) ∧ Hid (Below w.heap.size w w1)) := fun w1 hb1 => by
    obtain ⟨hc1, _⟩ := bcell hb1
    refine ⟨⟨?_, ?_, ?_, ?_⟩, below_step bl hb1⟩ <;> (rw [hc1 _ _ (by simp)]; simp [go_sem])
  have HV : Hid (∀ W, Hid (Below w.heap.size w W) → Calls Tryz.prog 63 #[.agg #[.int .i64 X.k, .slice p.a1 X.nl.length p.c1, .slice p.a2 X.ns.length p.c2, .slice p.a3 X.ss.length p.c3]] W fun e w' => ∃ a6 c6, e = .returned (.slice a6 X.nl.length c6) ∧ Hid (RowAt w' a6 (valsV X)) ∧ Hid (Below W.heap.size W w')) := fun W hW => by
    have := rvalues_any X p W hs (hp.later hW)
    rw [vecV_open] at this
    refine this.mono fun e w' ⟨v, he, h1, h2⟩ => ?_
    obtain ⟨a6, c6, rfl, _, _, hr⟩ := ownV_slice h1
    rw [vals_len hg] at he
    exact ⟨a6, c6, he, hr, h2⟩
  have HST : Hid (∀ W a6 c6, Hid (RowAt W a6 (valsV X)) → Hid (Below w.heap.size w W) → Calls Tryz.prog 65 #[.slice a6 X.nl.length c6] W fun e w' => ∃ a7 c7, e = .returned (.slice a7 (standL (valsV X)).length c7) ∧ Hid (OwnV w' W.heap.size (.slice a7 (standL (valsV X)).length c7) (standL (valsV X))) ∧ Hid (Below W.heap.size W w')) := fun W a6 c6 hr hW => by
    have := stand_any a6 c6 (valsV X) W (by rw [vals_len hg]; exact hnl) hr
    rw [vals_len hg] at this
    refine this.mono fun e w' ⟨v, he, h1, h2⟩ => ?_
    obtain ⟨a7, c7, rfl, _, _, _⟩ := ownV_slice h1
    exact ⟨a7, c7, he, h1, h2⟩
  have HUN : Hid (∀ W B a7 c7, Hid (OwnV W B (.slice a7 (standL (valsV X)).length c7) (standL (valsV X))) → Hid (Below w.heap.size w W) → Calls Tryz.prog 64 #[.slice a7 (standL (valsV X)).length c7] W fun e w' => ∃ S a8 c8, e = .returned (.slice a8 (unlT S S.length).length c8) ∧ Hid (S.Perm (standL (valsV X)) ∧ Rises S) ∧ Hid (RowAt w' a8 (unlT S S.length)) ∧ Hid (Below W.heap.size W w')) := fun W B a7 c7 ho hW => by
    refine (unlike_any B (standL (valsV X)) _ W (Nat.le_trans (stand_len _) (by rw [vals_len hg]; exact hnl)) ho).mono fun e w' ⟨S, v, he, h1, h2, h3⟩ => ?_
    obtain ⟨a8, c8, rfl, _, _, hr⟩ := ownV_slice h2
    exact ⟨S, a8, c8, he, h1, hr, h3⟩
  have i0 : ¬ (4096 : Int) < (X.nl.length : Int) := by omega
  have hkd1 : kd = 1 := by omega
  subst hkd1
  have HSZ : Hid (∀ x ∈ standL (valsV X), x.s.size ≤ 1000) := fun x hx => vals_size hg (List.mem_filter.1 hx).1
  have HYL : Hid ((standL (valsV X)).length ≤ 4096) := Nat.le_trans (stand_len _) (by rw [vals_len hg]; exact hl)
  have HH2 := hide (head2 4 1 (by omega) (by omega))
  have hkd2 : (1 : Int) ≤ 2 := by omega
  obtain ⟨ys, hys⟩ : ∃ ys, Hid (ys = standL (valsV X)) := ⟨_, rfl⟩
  rw [← unhide hys] at HST HUN HSZ HYL ⊢
  obtain ⟨xs, hxs⟩ : ∃ xs, Hid (xs = valsV X) := ⟨_, rfl⟩
  rw [← unhide hxs] at HV HST HVL ⊢
  rw [hk] at FACT HG HV ⊢
  have HYX : Hid (ys = standL xs) := by show _ = _; rw [unhide hys, unhide hxs]
  have HUL : Hid (∀ S : List Val, S.Perm ys → (unlT S S.length).length ≤ 4096) := fun S hp => Nat.le_trans (unlT_len S S.length) (by rw [hp.length_eq]; exact unhide HYL)
  clear hg bl hs hp hk hkd h4
  go_enter Tryz.func62, Tryz.ntmps62
  go_upto_region 8 with (first
    | (go_at_call 68; refine (unhide HG).mono ?_; rintro e w1 ⟨rfl, hb1⟩; obtain ⟨⟨c0, c1, c2, c3⟩, hbb⟩ := unhide FACT _ hb1; clear hb1)
    | (go_at_call 63; refine (unhide HV _ hbb).mono ?_; rintro e w2 ⟨a6, c6, rfl, R6, hb2⟩; have hbw2 := hide (below_step (unhide hbb) (unhide hb2)))
    | (go_at_call 65; refine (unhide HST _ _ _ R6 hbw2).mono ?_; rintro e w3 ⟨a7, c7, rfl, R7, hb3⟩; have hbw3 := hide (below_step (unhide hbw2) (unhide hb3)))
    | (go_at_call 64; refine (unhide HUN _ _ _ _ R7 hbw3).mono ?_; rintro e w4 ⟨S, a8, c8, rfl, HS, R8, hb4⟩; have hWl : ((unlT S S.length).length : Int) ≤ 4096 := (by have := unhide HUL S (unhide HS).1; omega))
    | fail)
  obtain ⟨W5, hW5⟩ : ∃ W5, Hid (W5 = w4.alloc (.cells #[.slice a8 (unlT S S.length).length c8] 37)) := ⟨_, rfl⟩
  have RS : Hid (RSt w W5 1 xs ys (unlT S S.length) a6 a7 a8 c8 w4.heap.size) := by
    have b5 : Below w4.heap.size w4 W5 := by rw [unhide hW5]; exact below_alloc (Below.refl _ _) _
    obtain ⟨a7', c7', e7, _, _, r7⟩ := ownV_slice (unhide R7)
    injection e7 with e7 _ _
    subst e7
    exact ⟨cell_later b5 (cell_later (unhide hb4) (cell_later (unhide hb3) (cell_later (unhide hb2) c0))), (((unhide R6).later (unhide hb3)).later (unhide hb4)).later b5, (r7.later (unhide hb4)).later b5, (unhide R8).later b5, by rw [unhide hW5]; simp [go_sem], below_step (below_step (unhide hbw3) (unhide hb4)) b5⟩
  rw [← unhide hW5]
  have hS7 := (unhide RS).k0
  have HWP : Hid (∃ S, S.Perm ys ∧ Rises S ∧ unlT S S.length = unlT S S.length) := ⟨S, (unhide HS).1, (unhide HS).2, rfl⟩
  obtain ⟨Wd, hWd⟩ : ∃ Wd, Hid (Wd = unlT S S.length) := ⟨_, rfl⟩
  rw [← unhide hWd] at RS hWl ⊢
  obtain ⟨B8, hB8⟩ : ∃ B8, Hid (B8 = w4.heap.size) := ⟨_, rfl⟩
  rw [← unhide hB8] at RS ⊢
  clear c0 c1 c2 c3 hbb hb2 hb3 hb4 hbw2 hbw3 R6 R7 R8 hW5 FACT HV HST HUN HG HUL hnl hB8 HWP
  go_cut [9] (fun s9 wx => s9 = .string (toB ((beL (4 : Int) 1 1 ++ beL 1 1 1) ++ beL (X.nl.length : Int) 4 4)) ∧ Hid (RSt w wx 1 xs ys Wd a6 a7 a8 c8 B8))
  case first =>
    as_aux_lemma =>
      have hkdn : 1 ≤ 2 ∧ 0 ≤ 1 := by omega
      have HBY := hide (fun W' => rbytes_any (X.nl.length : Int) 4 W' (by omega))
      obtain ⟨T1, hT1⟩ : ∃ T1, Hid (toB [(4 : Int), 1] = T1) := ⟨_, rfl⟩
      obtain ⟨T2, hT2⟩ : ∃ T2, Hid (toB (beL (X.nl.length : Int) 4 4) = T2) := ⟨_, rfl⟩
      have hTs : T1.size + T2.size ≤ 9223372036854775807 := by rw [← unhide hT1, ← unhide hT2, toB_size, toB_size, beL_len]; simp
      have hTT : Hid (T1 ++ T2 = toB ((beL (4 : Int) 1 1 ++ beL 1 1 1) ++ beL (X.nl.length : Int) 4 4)) := by
        show _ = _
        rw [← unhide hT1, ← unhide hT2, toB_append]
        exact congrArg (· ++ toB (beL (X.nl.length : Int) 4 4)) (unhide HH2)
      rw [unhide hT2] at HBY
      have hS0 : (fun w' : World => w'.cell? ⟨w.heap.size, 0, none⟩ = some (.int .i64 1)) W5.drew := hS7
      have RSC : Hid (RSt w W5.drew 1 xs ys Wd a6 a7 a8 c8 B8) := (unhide RS).later ((Below.refl _ _).drew)
      clear hS7 RS
      refine wp_region_noPanic ?_
      refine wp_region_G (S := fun w' : World => w'.cell? ⟨w.heap.size, 0, none⟩ = some (.int .i64 1)) (k := 11) (by kernel_rfl) ?_
      refine anyG_takel (i := 0) (v := (.int .i64 4)) [1, 5, 6, 11] rfl (by kernel_rfl) (by kernel_rfl) (by kernel_rfl) (by kernel_rfl) (fun _ _ _ h => h) (Or.inl ⟨by rfl, fun w' hSw => ?_⟩) hS0 ?_
      · dsimp only at hSw; go_simp; try (first | exact wrap8 hkdn | rfl | exact wrap_size (by omega))
      try simp only [Act.put, List.setIfInBounds_toArray, List.set_cons_zero, List.set_cons_succ]
      refine anyG_takel (i := 1) (v := (.int .u8 4)) [5, 6, 11] rfl (by kernel_rfl) (by kernel_rfl) (by kernel_rfl) (by kernel_rfl) (fun _ _ _ h => h) (Or.inl ⟨by rfl, fun w' hSw => ?_⟩) hS0 ?_
      · dsimp only at hSw; go_simp; try (first | exact wrap8 hkdn | rfl | exact wrap_size (by omega))
      try simp only [Act.put, List.setIfInBounds_toArray, List.set_cons_zero, List.set_cons_succ]
      refine anyG_takel (i := 2) (v := (.pointer (some ⟨w.heap.size, 0, none⟩))) [3, 4, 5, 6, 11] rfl (by kernel_rfl) (by kernel_rfl) (by kernel_rfl) (by kernel_rfl) (fun _ _ _ h => h) (Or.inl ⟨by rfl, fun w' hSw => ?_⟩) hS0 ?_
      · dsimp only at hSw; go_simp; try (first | exact wrap8 hkdn | rfl | exact wrap_size (by omega))
      try simp only [Act.put, List.setIfInBounds_toArray, List.set_cons_zero, List.set_cons_succ]
      refine anyG_takel (i := 3) (v := (.int .i64 1)) [4, 5, 6, 11] rfl (by kernel_rfl) (by kernel_rfl) (by kernel_rfl) (by kernel_rfl) (fun _ _ _ h => h) (Or.inl ⟨by rfl, fun w' hSw => ?_⟩) hS0 ?_
      · dsimp only at hSw; go_simp; try (first | exact wrap8 hkdn | rfl | exact wrap_size (by omega))
      try simp only [Act.put, List.setIfInBounds_toArray, List.set_cons_zero, List.set_cons_succ]
      refine anyG_takel (i := 4) (v := (.int .u8 1)) [5, 6, 11] rfl (by kernel_rfl) (by kernel_rfl) (by kernel_rfl) (by kernel_rfl) (fun _ _ _ h => h) (Or.inl ⟨by rfl, fun w' hSw => ?_⟩) hS0 ?_
      · dsimp only at hSw; go_simp; try (first | exact wrap8 hkdn | rfl | exact wrap_size (by omega))
      try simp only [Act.put, List.setIfInBounds_toArray, List.set_cons_zero, List.set_cons_succ]
      refine anyG_takel (i := 7) (v := (.slice a6 X.nl.length c6)) [8, 9, 10, 11] rfl (by kernel_rfl) (by kernel_rfl) (by kernel_rfl) (by kernel_rfl) (fun _ _ _ h => h) (Or.inl ⟨by rfl, fun w' hSw => ?_⟩) hS0 ?_
      · dsimp only at hSw; go_simp; try (first | exact wrap8 hkdn | rfl | exact wrap_size (by omega))
      try simp only [Act.put, List.setIfInBounds_toArray, List.set_cons_zero, List.set_cons_succ]
      refine anyG_takel (i := 8) (v := (.int .i64 X.nl.length)) [9, 10, 11] rfl (by kernel_rfl) (by kernel_rfl) (by kernel_rfl) (by kernel_rfl) (fun _ _ _ h => h) (Or.inl ⟨by rfl, fun w' hSw => ?_⟩) hS0 ?_
      · dsimp only at hSw; go_simp; try (first | exact wrap8 hkdn | rfl | exact wrap_size (by omega))
      try simp only [Act.put, List.setIfInBounds_toArray, List.set_cons_zero, List.set_cons_succ]
      refine anyG_takel (i := 9) (v := (.int .u64 X.nl.length)) [10, 11] rfl (by kernel_rfl) (by kernel_rfl) (by kernel_rfl) (by kernel_rfl) (fun _ _ _ h => h) (Or.inl ⟨by rfl, fun w' hSw => ?_⟩) hS0 ?_
      · dsimp only at hSw; go_simp; try (first | exact wrap8 hkdn | rfl | exact wrap_size (by omega))
      try simp only [Act.put, List.setIfInBounds_toArray, List.set_cons_zero, List.set_cons_succ]
      clear hS0
      refine anyG_many [5, 10] (by kernel_rfl) (by simp) ?_
      intro i hi
      simp only [List.mem_cons, List.not_mem_nil, or_false] at hi
      rcases hi with rfl | rfl
      · refine wpOp_lit rfl (by rfl) fun K hK => ?_
        go_simp
        have HOB : Hid (OwnB (W5.alloc (.cells #[.int .u8 (4 : Int), .int .u8 1] 5)).drew 0 (.slice (some ⟨W5.heap.size, 0, none⟩) 2 2) [(4 : Int), 1]) := World.ownsRow.drew (two_own W5 (4 : Int) 1)
        have RSB : Hid (RSt w (W5.alloc (.cells #[.int .u8 (4 : Int), .int .u8 1] 5)).drew 1 xs ys Wd a6 a7 a8 c8 B8) := (unhide RSC).later ((below_alloc (Below.refl _ W5.drew) (.cells #[.int .u8 (4 : Int), .int .u8 1] 5)))
        refine unhide hK _ _ ⟨fun _ => (unhide RSB).k0, ?_⟩
        clear hK K
        generalize hWB : (W5.alloc (.cells #[.int .u8 (4 : Int), .int .u8 1] 5)).drew = WB at *
        clear hWB
        refine anyG_many [6, 10] (by kernel_rfl) (by simp) ?_
        intro i hi
        simp only [List.mem_cons, List.not_mem_nil, or_false] at hi
        rcases hi with rfl | rfl
        · refine wpOp_lit rfl (by rfl) fun K hK => ?_
          have hcv := convert_own (unhide HOB)
          rw [unhide hT1] at hcv
          go_simp
          refine unhide hK _ _ ⟨fun _ => (unhide RSB).k0, ?_⟩
          clear hK K hcv
          refine anyG_one (i := 10) (by kernel_rfl) ?_
          refine wpOp_lit rfl (by rfl) fun K hK => ?_
          go_simp
          refine (unhide HBY _).mono ?_
          rintro e w9 ⟨rfl, hb9⟩
          have RS9 := hide ((unhide RSB).later hb9)
          clear hb9
          go_simp
          refine unhide hK _ _ ⟨fun _ => (unhide RS9).k0, ?_⟩
          clear hK K
          refine anyG_one (i := 11) (by kernel_rfl) ?_
          refine wpOp_lit rfl (by rfl) fun K hK => ?_
          go_simp
          rw [if_neg (Nat.not_lt.2 hTs)]
          go_simp
          refine unhide hK _ _ ⟨fun hh => absurd hh (by decide), ?_⟩
          clear hK K
          refine anyG_one (i := 12) (by kernel_rfl) ?_
          refine wpOp_lit rfl (by rfl) fun K hK => ?_
          go_simp
          refine unhide hK _ _ ⟨fun hh => absurd hh (by decide), ?_⟩
          clear hK K
          refine anyG_done (by kernel_rfl) ?_ _
          refine NoPanic.normal ?_
          go_wp2
          go_meet
          exact ⟨by rw [unhide hTT], unhide RS9⟩
        · refine wpOp_lit rfl (by rfl) fun K hK => ?_
          go_simp
          refine (unhide HBY _).mono ?_
          rintro e w9 ⟨rfl, hb9⟩
          have RS9 := hide ((unhide RSB).later hb9)
          replace HOB := hide (own_later (unhide HOB) hb9)
          clear hb9
          go_simp
          refine unhide hK _ _ ⟨fun _ => (unhide RS9).k0, ?_⟩
          clear hK K
          refine anyG_one (i := 6) (by kernel_rfl) ?_
          refine wpOp_lit rfl (by rfl) fun K hK => ?_
          have hcv := convert_own (unhide HOB)
          rw [unhide hT1] at hcv
          go_simp
          refine unhide hK _ _ ⟨fun _ => (unhide RS9).k0, ?_⟩
          clear hK K hcv
          refine anyG_one (i := 11) (by kernel_rfl) ?_
          refine wpOp_lit rfl (by rfl) fun K hK => ?_
          go_simp
          rw [if_neg (Nat.not_lt.2 hTs)]
          go_simp
          refine unhide hK _ _ ⟨fun hh => absurd hh (by decide), ?_⟩
          clear hK K
          refine anyG_one (i := 12) (by kernel_rfl) ?_
          refine wpOp_lit rfl (by rfl) fun K hK => ?_
          go_simp
          refine unhide hK _ _ ⟨fun hh => absurd hh (by decide), ?_⟩
          clear hK K
          refine anyG_done (by kernel_rfl) ?_ _
          refine NoPanic.normal ?_
          go_wp2
          go_meet
          exact ⟨by rw [unhide hTT], unhide RS9⟩
      · refine wpOp_lit rfl (by rfl) fun K hK => ?_
        go_simp
        refine (unhide HBY _).mono ?_
        rintro e w9 ⟨rfl, hb9⟩
        have RS9 := hide ((unhide RSC).later hb9)
        clear hb9
        go_simp
        refine unhide hK _ _ ⟨fun _ => (unhide RS9).k0, ?_⟩
        clear hK K
        refine anyG_one (i := 5) (by kernel_rfl) ?_
        refine wpOp_lit rfl (by rfl) fun K hK => ?_
        go_simp
        have HOB := hide (two_own w9 (4 : Int) 1)
        have RSB := hide ((unhide RS9).later (below_alloc (Below.refl _ w9) (.cells #[.int .u8 (4 : Int), .int .u8 1] 5)))
        refine unhide hK _ _ ⟨fun _ => (unhide RSB).k0, ?_⟩
        clear hK K
        refine anyG_one (i := 6) (by kernel_rfl) ?_
        refine wpOp_lit rfl (by rfl) fun K hK => ?_
        have hcv := convert_own (unhide HOB)
        rw [unhide hT1] at hcv
        go_simp
        refine unhide hK _ _ ⟨fun _ => (unhide RSB).k0, ?_⟩
        clear hK K hcv
        refine anyG_one (i := 11) (by kernel_rfl) ?_
        refine wpOp_lit rfl (by rfl) fun K hK => ?_
        go_simp
        rw [if_neg (Nat.not_lt.2 hTs)]
        go_simp
        refine unhide hK _ _ ⟨fun hh => absurd hh (by decide), ?_⟩
        clear hK K
        refine anyG_one (i := 12) (by kernel_rfl) ?_
        refine wpOp_lit rfl (by rfl) fun K hK => ?_
        go_simp
        refine unhide hK _ _ ⟨fun hh => absurd hh (by decide), ?_⟩
        clear hK K
        refine anyG_done (by kernel_rfl) ?_ _
        refine NoPanic.normal ?_
        go_wp2
        go_meet
        exact ⟨by rw [unhide hTT], unhide RSB⟩
  case rest =>
    obtain ⟨rfl, RX⟩ := hcut
    rename World => wx
    obtain ⟨bb, e85⟩ : ∃ bb, ((ys.length : Int) == (X.nl.length : Int)) = bb := ⟨_, rfl⟩
    go_upto_if 85 with fail
    go_cut [9] (fun s9 wy => s9 = .string (toB (headB 4 1 xs)) ∧ Hid (RSt w wy 1 xs ys Wd a6 a7 a8 c8 B8))
    case first =>
      as_aux_lemma =>
        have HHD : Hid (toB (headB 4 1 xs) = toB ((beL (4 : Int) 1 1 ++ beL 1 1 1) ++ beL (X.nl.length : Int) 4 4) ++ toB (nullsL xs)) := by
          show _ = _
          rw [headB, toB_append, unhide HVL]
          rfl
        obtain ⟨T3, hT3⟩ : ∃ T3, Hid (toB ((beL (4 : Int) 1 1 ++ beL 1 1 1) ++ beL (X.nl.length : Int) 4 4) = T3) := ⟨_, rfl⟩
        have hT3s : T3.size ≤ 100 := by rw [← unhide hT3, toB_size, List.length_append, List.length_append, beL_len, beL_len, beL_len]; omega
        rw [unhide hT3] at HHD ⊢
        have HBB := hide e85
        clear e85
        cases bb
        rotate_left 1
        · have hnul : ys.length = X.nl.length := by have h := unhide HBB; simp at h; omega
          have HNL : Hid (toB (nullsL xs) = ⟨#[0]⟩) := by
            show _ = _
            rw [nulls_no (by rw [← unhide HYX, hnul, unhide HVL])]
            rfl
          clear hnul
          go_wp2
          go_meet
          exact ⟨by rw [unhide HHD, unhide HNL], RX⟩
        · have hnul : ¬ ys.length = X.nl.length := by have h := unhide HBB; simp at h; omega
          have HNL : Hid (toB (nullsL xs) = (⟨#[1]⟩ : ByteArray) ++ toB (leB (total 1 (marksN xs)) (bytesN xs.length 1))) := by
            show _ = _
            rw [nulls_yes (by rw [← unhide HYX, unhide HVL]; exact hnul), toB_append]
            rfl
          have HML : Hid ((marksN xs).length = X.nl.length) := by show _ = _; rw [← unhide HVL]; simp [marksN]
          clear hnul
          have hf1 : ∀ W : World, (Instr.field 59 (.agg #[.int .i64 1, .int .i64 1, .string ⟨#[]⟩]) 1).run Tryz.prog W = .ok (.int .i64 1) W := fun _ => by kernel_rfl
          have hf0 : ∀ W : World, (Instr.field 59 (.agg #[.int .i64 1, .int .i64 0, .string ⟨#[]⟩]) 1).run Tryz.prog W = .ok (.int .i64 0) W := fun _ => by kernel_rfl
          go_wp2_with fail
          go_loopw [10, 90] (fun s10 s wr => ∃ k : Nat, k ≤ X.nl.length ∧ s = .int .i64 (k : Int) ∧ OwnU wr wx.heap.size s10 ((marksN xs).take k) ∧ Below wx.heap.size wx wr) (fun _ s _ => X.nl.length - (intOf s).toNat)
          case atStart => exact ⟨0, Nat.zero_le _, rfl, World.ownsRow_nil _ _ _ _, Below.refl _ _⟩
          case round =>
            obtain ⟨k, hk, rfl, ho, hb⟩ := hrel
            by_cases h8 : k < X.nl.length
            · have h9 : (k : Int) < (X.nl.length : Int) := by omega
              obtain ⟨x, hx⟩ : ∃ x, xs[k]? = some x := ⟨_, List.getElem?_eq_getElem (by rw [unhide HVL]; exact h8)⟩
              rcases ((unhide RX).later hb).r6 with e | ⟨rb, ro, rfl, hc⟩
              · rw [e] at hx; cases hx
              obtain ⟨d0, d1, d2⟩ := hc k x hx
              have bl := below_alloc (Below.refl _ wr) (.cells #[.int .i64 x.k, .int .i64 x.n, .string x.s] 59)
              have HO1 := hide (ho.later bl)
              have HB1 := hide (below_step hb bl)
              have hkl : ((marksN xs).take k).length ≤ 1048576 := by rw [List.length_take]; omega
              have HKL := hide hkl
              have HMK : Hid ((marksN xs).take (k + 1) = (marksN xs).take k ++ [if nullB x then 1 else 0]) := by
                show _ = _
                have h2 : (marksN xs)[k]? = some (if nullB x then 1 else 0) := by simp [marksN, hx]
                obtain ⟨h3, h4⟩ := List.getElem?_eq_some_iff.1 h2
                rw [List.take_succ_eq_append_getElem h3, h4]
              clear hc hx ho hb bl hkl
              rcases Bool.eq_false_or_eq_true (nullB x) with e1 | e1
              · have e2 : (x.k == 0) = true := e1
                rw [e1, if_pos rfl] at HMK
                clear e1
                go_wp2_with (first
                  | (go_at_call 81; refine (rtruth_yes _).mono ?_; rintro e w9 ⟨rfl, hb9⟩; have HO9 := hide ((unhide HO1).later hb9); have HB9 := hide (below_step (unhide HB1) hb9); clear hb9)
                  | (at_builtin; refine wpList_append_num w9 1 rfl (.tmp 94) (.tmp 101) rfl wx.heap.size _ _ rfl rfl (unhide HO9) (unhide HKL) (unhide HB9).size ?_; intro v1 w8 g1 g2; replace g1 := hide g1; replace g2 := hide g2))
                go_roundw
                case rel => exact ⟨k + 1, by omega, by go_num, by rw [unhide HMK]; exact unhide g1, (unhide HB9).trans (unhide g2)⟩
                case measure => first | (simp [intOf]; omega) | (simp only [intOf]; omega)
              · have e2 : (x.k == 0) = false := e1
                rw [e1, if_neg (by simp)] at HMK
                clear e1
                go_wp2_with (first
                  | (go_at_call 81; refine (rtruth_no _).mono ?_; rintro e w9 ⟨rfl, hb9⟩; have HO9 := hide ((unhide HO1).later hb9); have HB9 := hide (below_step (unhide HB1) hb9); clear hb9)
                  | (at_builtin; refine wpList_append_num w9 0 rfl (.tmp 94) (.tmp 101) rfl wx.heap.size _ _ rfl rfl (unhide HO9) (unhide HKL) (unhide HB9).size ?_; intro v1 w8 g1 g2; replace g1 := hide g1; replace g2 := hide g2))
                go_roundw
                case rel => exact ⟨k + 1, by omega, by go_num, by rw [unhide HMK]; exact unhide g1, (unhide HB9).trans (unhide g2)⟩
                case measure => first | (simp [intOf]; omega) | (simp only [intOf]; omega)
            · have h9 : ¬ (k : Int) < (X.nl.length : Int) := by omega
              have hk8 : k = (marksN xs).length := by rw [unhide HML]; omega
              rw [hk8, List.take_length] at ho
              obtain ⟨a10, c10, e10, hlis⟩ := ho.lis
              have HBT := hide (rbits_any a10 c10 (marksN xs) 1 wr (by rw [unhide HML]; omega) (by omega) (fun m hm => by
                obtain ⟨x, _, rfl⟩ := List.mem_map.1 hm
                split <;> decide) hlis)
              have RZ := hide ((unhide RX).later hb)
              subst e10
              obtain ⟨T4, hT4⟩ : ∃ T4, Hid (toB (leB (total 1 (marksN xs)) (bytesN (marksN xs).length 1)) = T4) := ⟨_, rfl⟩
              have hT4s : T4.size ≤ 1000 := by
                rw [← unhide hT4, toB_size, leB_len, unhide HML]
                unfold bytesN
                omega
              have HFN : Hid (toB (headB 4 1 xs) = T3 ++ ((⟨#[1]⟩ : ByteArray) ++ T4)) := by
                show _ = _
                rw [unhide HHD, unhide HNL, ← unhide hT4, unhide HML, unhide HVL]
              rw [unhide hT4] at HBT
              have hone : ((⟨#[1]⟩ : ByteArray) ++ T4).size = 1 + T4.size := by rw [ByteArray.size_append]; rfl
              clear ho hb hk8 hlis HHD HNL
              go_wp2_with (go_at_call 82; refine (unhide HBT).mono ?_; rintro e w7 ⟨rfl, hb7⟩; replace hb7 := hide hb7)
              go_meet
              exact ⟨by rw [unhide HFN], (unhide RZ).later (unhide hb7)⟩
    case rest =>
      obtain ⟨rfl, RY⟩ := hcut
      clear e85
      rename World => wy
      have hyl := unhide HYL
      have HWP : Hid (0 < ys.length → 0 < Wd.length) := fun h => by rw [unhide hWd]; exact unl_pos (by rw [(unhide HS).1.length_eq]; exact h)
      have HWZ : Hid (ys.length = 0 → Wd.length = 0) := fun h => by rw [unhide hWd]; have h3 : S.length = 0 := (by rw [(unhide HS).1.length_eq]; exact h); have := (unl_sub S).length_le; omega
      have HHL : Hid ((toB (headB 4 1 xs)).size ≤ 1000000) := by
        show _ ≤ _
        rw [toB_size]
        have := nulls_len xs (by rw [unhide HVL]; exact hl)
        simp only [headB, List.length_append, beL_len]
        omega
      obtain ⟨T0, hT0⟩ : ∃ T0, Hid (toB (headB 4 1 xs) = T0) := ⟨_, rfl⟩
      have hT0s : T0.size ≤ 1000000 := by rw [← unhide hT0]; exact unhide HHL
      rw [unhide hT0]
      obtain ⟨ls, hls⟩ : ∃ ls, Hid (ls = firstI Wd) := ⟨_, rfl⟩
      obtain ⟨lt, hlt⟩ : ∃ lt, Hid (lt = lastI Wd) := ⟨_, rfl⟩
      obtain ⟨bb, e220⟩ : ∃ bb, decide (0 < ys.length) = bb := ⟨_, rfl⟩
      go_upto_if 220 with fail
      go_cut [25, 26] (fun s25 s26 wz => s25 = .int .u64 (IntKind.u64.wrap ls) ∧ s26 = .int .u64 (IntKind.u64.wrap lt) ∧ Hid (RSt w wz 1 xs ys Wd a6 a7 a8 c8 B8))
      case first =>
        have HBB := hide e220
        clear e220
        cases bb
        · have hz : ys.length = 0 := by have h := unhide HBB; simp only [decide_eq_false_iff_not] at h; omega
          have h1 := unhide HWZ hz
          have HL0 : Hid (ls = 0 ∧ lt = 0) := by
            refine ⟨?_, ?_⟩
            · rw [unhide hls, firstI, if_pos h1]
            · rw [unhide hlt, lastI, if_pos h1]
          clear hz h1
          go_wp2
          go_meet
          exact ⟨by rw [(unhide HL0).1]; rfl, by rw [(unhide HL0).2]; rfl, RY⟩
        · have hz : 0 < ys.length := by have h := unhide HBB; simpa only [decide_eq_true_eq] using h
          have h1 := unhide HWP hz
          obtain ⟨q, hq⟩ : ∃ q, q = Wd.length - 1 := ⟨_, rfl⟩
          have eq1 : (Wd.length : Int) - 1 = (q : Int) := by omega
          have i5 : (q : Int) < (Wd.length : Int) := by omega
          have i6 : (0 : Int) < (Wd.length : Int) := by omega
          have cB := (unhide RY).b8
          rcases (unhide RY).r8 with e | ⟨rb, ro, rfl, hc⟩
          · rw [e] at h1; simp at h1
          obtain ⟨_, f1, _⟩ := hc 0 _ (atL_some h1)
          obtain ⟨_, g1, _⟩ := hc q _ (atL_some (show q < Wd.length by omega))
          have e1 : (atL Wd 0).n = ls := by rw [unhide hls, firstI, if_neg (by omega)]
          have e2 : (atL Wd q).n = lt := by rw [unhide hlt, lastI, if_neg (by omega), hq]
          rw [e1] at f1
          rw [e2] at g1
          rw [Nat.zero_mul, Nat.add_zero] at f1
          clear hc hz h1 hq e1 e2
          go_upto_region 55 with fail
          have k0 := cell_regrown f1
          have k1 := cell_regrown g1
          have k2 := cell_regrown cB
          clear f1 g1 cB
          refine wp_region_quiet_below (by kernel_rfl) (by kernel_rfl) ?_
          repeat (go_big_quiet_step (first | (go_at_call 84; exact Calls.regrown_of (rorder_any Val.null Val.null _))))
          refine wpQuiet_nil ?_
          intro w' hw'
          have hB : Below wy.heap.size wy w' := by obtain ⟨p, rfl⟩ := hw'; exact below_regrown _ _ _
          clear hw'
          go_wp2
          go_meet
          exact ⟨rfl, rfl, (unhide RY).later hB⟩
      case rest =>
        obtain ⟨rfl, rfl, RZ⟩ := hcut
        clear e220
        rename World => wz
        have e56 : IntKind.u64.wrap (IntKind.u64.wrap lt - IntKind.u64.wrap ls) = (farN Wd : Int) := by rw [unhide hls, unhide hlt]; exact farN_wrap Wd
        have HFL := hide (farN_lt Wd)
        have HRW := hide (fun W' => rwidth_any (farN Wd) W' (farN_lt Wd))
        have hDD : bl (farN Wd) ≤ 64 := bl_le (by have := farN_lt Wd; simpa using this)
        have HOR : Hid (offsR Wd ys = (beL (IntKind.u64.wrap ls) 8 8 ++ beL (bl (farN Wd) : Int) 1 1) ++ leB (total (bl (farN Wd)) (ys.map (offN ls))) (bytesN ys.length (bl (farN Wd)))) := by
          show _ = _
          rw [offsR, unhide hls]
          rfl
        generalize bl (farN Wd) = DD at *
        generalize farN Wd = FN at *
        go_upto_region 57 with (first | (go_at_call 87; refine (unhide HRW _).mono ?_; rintro e w7 ⟨rfl, rfl⟩) | fail)
        clear e56
        go_cut [9] (fun s9 wv => s9 = .string (toB (headB 4 1 xs ++ (beL (IntKind.u64.wrap ls) 8 8 ++ beL (DD : Int) 1 1))) ∧ Hid (RSt w wv 1 xs ys Wd a6 a7 a8 c8 B8))
        case first =>
          as_aux_lemma =>
            rename World => wz
            have HBY := hide (fun W' => rbytes_any (IntKind.u64.wrap ls) 8 W' (by omega))
            obtain ⟨T1, hT1⟩ : ∃ T1, Hid (toB [(DD : Int)] = T1) := ⟨_, rfl⟩
            obtain ⟨T2, hT2⟩ : ∃ T2, Hid (toB (beL (IntKind.u64.wrap ls) 8 8) = T2) := ⟨_, rfl⟩
            have hT1s : T1.size ≤ 10 := by rw [← unhide hT1, toB_size]; simp
            have hT2s : T2.size ≤ 10 := by rw [← unhide hT2, toB_size, beL_len]; omega
            have hTs1 : T2.size + T1.size ≤ 9223372036854775807 := by omega
            have hTs2 : T0.size + (T2 ++ T1).size ≤ 9223372036854775807 := by rw [ByteArray.size_append]; omega
            have hTT : Hid (T0 ++ (T2 ++ T1) = toB (headB 4 1 xs ++ (beL (IntKind.u64.wrap ls) 8 8 ++ beL (DD : Int) 1 1))) := by
              show _ = _
              rw [← unhide hT1, ← unhide hT2, one_be hDD, toB_append, toB_append, unhide hT0]
            rw [unhide hT2] at HBY
            have hS0 : (fun _ : World => True) wz.drew := trivial
            have RSC : Hid (RSt w wz.drew 1 xs ys Wd a6 a7 a8 c8 B8) := (unhide RZ).later ((Below.refl _ _).drew)
            refine wp_region_noPanic ?_
            refine wp_region_G (S := fun _ : World => True) (k := 8) (by kernel_rfl) ?_
            refine anyG_takel (i := 0) (v := (.string T0)) [8] rfl (by kernel_rfl) (by kernel_rfl) (by kernel_rfl) (by kernel_rfl) (fun _ _ _ h => h) (Or.inl ⟨by rfl, fun w' hSw => ?_⟩) hS0 ?_
            · go_simp; try (first | exact wrap8n hDD | rfl)
            try simp only [Act.put, List.setIfInBounds_toArray, List.set_cons_zero, List.set_cons_succ]
            refine anyG_takel (i := 1) (v := (.int .u64 (IntKind.u64.wrap ls))) [2, 7, 8] rfl (by kernel_rfl) (by kernel_rfl) (by kernel_rfl) (by kernel_rfl) (fun _ _ _ h => h) (Or.inl ⟨by rfl, fun w' hSw => ?_⟩) hS0 ?_
            · go_simp; try (first | exact wrap8n hDD | rfl)
            try simp only [Act.put, List.setIfInBounds_toArray, List.set_cons_zero, List.set_cons_succ]
            refine anyG_takel (i := 3) (v := (.int .i64 (DD : Int))) [4, 5, 6, 7, 8] rfl (by kernel_rfl) (by kernel_rfl) (by kernel_rfl) (by kernel_rfl) (fun _ _ _ h => h) (Or.inl ⟨by rfl, fun w' hSw => ?_⟩) hS0 ?_
            · go_simp; try (first | exact wrap8n hDD | rfl)
            try simp only [Act.put, List.setIfInBounds_toArray, List.set_cons_zero, List.set_cons_succ]
            refine anyG_takel (i := 4) (v := (.int .u8 (DD : Int))) [5, 6, 7, 8] rfl (by kernel_rfl) (by kernel_rfl) (by kernel_rfl) (by kernel_rfl) (fun _ _ _ h => h) (Or.inl ⟨by rfl, fun w' hSw => ?_⟩) hS0 ?_
            · go_simp; try (first | exact wrap8n hDD | rfl)
            try simp only [Act.put, List.setIfInBounds_toArray, List.set_cons_zero, List.set_cons_succ]
            clear hS0
            refine anyG_many [2, 5] (by kernel_rfl) (by simp) ?_
            intro i hi
            simp only [List.mem_cons, List.not_mem_nil, or_false] at hi
            rcases hi with rfl | rfl
            rotate_left 1
            · refine wpOp_lit rfl (by rfl) fun K hK => ?_
              go_simp
              have HOB : Hid (OwnB (wz.alloc (.cells #[.int .u8 (DD : Int)] 5)).drew 0 (.slice (some ⟨wz.heap.size, 0, none⟩) 1 1) [(DD : Int)]) := World.ownsRow.drew (one_own wz (DD : Int))
              have RSB : Hid (RSt w (wz.alloc (.cells #[.int .u8 (DD : Int)] 5)).drew 1 xs ys Wd a6 a7 a8 c8 B8) := (unhide RSC).later (below_alloc (Below.refl _ wz.drew) (.cells #[.int .u8 (DD : Int)] 5))
              refine unhide hK _ _ ⟨fun _ => trivial, ?_⟩
              clear hK K
              generalize hWB : (wz.alloc (.cells #[.int .u8 (DD : Int)] 5)).drew = WB at *
              clear hWB
              refine anyG_many [2, 6] (by kernel_rfl) (by simp) ?_
              intro i hi
              simp only [List.mem_cons, List.not_mem_nil, or_false] at hi
              rcases hi with rfl | rfl
              · refine wpOp_lit rfl (by rfl) fun K hK => ?_
                go_simp
                refine (unhide HBY _).mono ?_
                rintro e w9 ⟨rfl, hb9⟩
                have RS9 := hide ((unhide RSB).later hb9)
                replace HOB := hide (own_later (unhide HOB) hb9)
                clear hb9
                go_simp
                refine unhide hK _ _ ⟨fun _ => trivial, ?_⟩
                clear hK K
                refine anyG_one (i := 6) (by kernel_rfl) ?_
                refine wpOp_lit rfl (by rfl) fun K hK => ?_
                have hcv := convert_own (unhide HOB)
                rw [unhide hT1] at hcv
                go_simp
                refine unhide hK _ _ ⟨fun _ => trivial, ?_⟩
                clear hK K hcv
                refine anyG_one (i := 7) (by kernel_rfl) ?_
                refine wpOp_lit rfl (by rfl) fun K hK => ?_
                go_simp
                (try (rw [if_neg (by omega)]; go_simp))
                refine unhide hK _ _ ⟨fun _ => trivial, ?_⟩
                clear hK K
                refine anyG_one (i := 8) (by kernel_rfl) ?_
                refine wpOp_lit rfl (by rfl) fun K hK => ?_
                go_simp
                (try (rw [if_neg (by (try simp only [ByteArray.size_append]); omega)]; go_simp))
                refine unhide hK _ _ ⟨fun hh => absurd hh (by decide), ?_⟩
                clear hK K
                refine anyG_one (i := 9) (by kernel_rfl) ?_
                refine wpOp_lit rfl (by rfl) fun K hK => ?_
                go_simp
                refine unhide hK _ _ ⟨fun hh => absurd hh (by decide), ?_⟩
                clear hK K
                refine anyG_done (by kernel_rfl) ?_ _
                refine NoPanic.normal ?_
                go_wp2
                go_meet
                exact ⟨by rw [unhide hTT], unhide RS9⟩
              · refine wpOp_lit rfl (by rfl) fun K hK => ?_
                have hcv := convert_own (unhide HOB)
                rw [unhide hT1] at hcv
                go_simp
                refine unhide hK _ _ ⟨fun _ => trivial, ?_⟩
                clear hK K hcv
                refine anyG_one (i := 2) (by kernel_rfl) ?_
                refine wpOp_lit rfl (by rfl) fun K hK => ?_
                go_simp
                refine (unhide HBY _).mono ?_
                rintro e w9 ⟨rfl, hb9⟩
                have RS9 := hide ((unhide RSB).later hb9)
                clear hb9
                go_simp
                refine unhide hK _ _ ⟨fun _ => trivial, ?_⟩
                clear hK K
                refine anyG_one (i := 7) (by kernel_rfl) ?_
                refine wpOp_lit rfl (by rfl) fun K hK => ?_
                go_simp
                (try (rw [if_neg (by omega)]; go_simp))
                refine unhide hK _ _ ⟨fun _ => trivial, ?_⟩
                clear hK K
                refine anyG_one (i := 8) (by kernel_rfl) ?_
                refine wpOp_lit rfl (by rfl) fun K hK => ?_
                go_simp
                (try (rw [if_neg (by (try simp only [ByteArray.size_append]); omega)]; go_simp))
                refine unhide hK _ _ ⟨fun hh => absurd hh (by decide), ?_⟩
                clear hK K
                refine anyG_one (i := 9) (by kernel_rfl) ?_
                refine wpOp_lit rfl (by rfl) fun K hK => ?_
                go_simp
                refine unhide hK _ _ ⟨fun hh => absurd hh (by decide), ?_⟩
                clear hK K
                refine anyG_done (by kernel_rfl) ?_ _
                refine NoPanic.normal ?_
                go_wp2
                go_meet
                exact ⟨by rw [unhide hTT], unhide RS9⟩
            · refine wpOp_lit rfl (by rfl) fun K hK => ?_
              go_simp
              refine (unhide HBY _).mono ?_
              rintro e w9 ⟨rfl, hb9⟩
              have RS9 := hide ((unhide RSC).later hb9)
              clear hb9
              go_simp
              refine unhide hK _ _ ⟨fun _ => trivial, ?_⟩
              clear hK K
              refine anyG_one (i := 5) (by kernel_rfl) ?_
              refine wpOp_lit rfl (by rfl) fun K hK => ?_
              go_simp
              have HOB : Hid (OwnB (w9.alloc (.cells #[.int .u8 (DD : Int)] 5)) 0 (.slice (some ⟨w9.heap.size, 0, none⟩) 1 1) [(DD : Int)]) := one_own w9 (DD : Int)
              have RSB : Hid (RSt w (w9.alloc (.cells #[.int .u8 (DD : Int)] 5)) 1 xs ys Wd a6 a7 a8 c8 B8) := (unhide RS9).later (below_alloc (Below.refl _ w9) (.cells #[.int .u8 (DD : Int)] 5))
              refine unhide hK _ _ ⟨fun _ => trivial, ?_⟩
              clear hK K
              refine anyG_one (i := 6) (by kernel_rfl) ?_
              refine wpOp_lit rfl (by rfl) fun K hK => ?_
              have hcv := convert_own (unhide HOB)
              rw [unhide hT1] at hcv
              go_simp
              refine unhide hK _ _ ⟨fun _ => trivial, ?_⟩
              clear hK K hcv
              refine anyG_one (i := 7) (by kernel_rfl) ?_
              refine wpOp_lit rfl (by rfl) fun K hK => ?_
              go_simp
              (try (rw [if_neg (by omega)]; go_simp))
              refine unhide hK _ _ ⟨fun _ => trivial, ?_⟩
              clear hK K
              refine anyG_one (i := 8) (by kernel_rfl) ?_
              refine wpOp_lit rfl (by rfl) fun K hK => ?_
              go_simp
              (try (rw [if_neg (by (try simp only [ByteArray.size_append]); omega)]; go_simp))
              refine unhide hK _ _ ⟨fun hh => absurd hh (by decide), ?_⟩
              clear hK K
              refine anyG_one (i := 9) (by kernel_rfl) ?_
              refine wpOp_lit rfl (by rfl) fun K hK => ?_
              go_simp
              refine unhide hK _ _ ⟨fun hh => absurd hh (by decide), ?_⟩
              clear hK K
              refine anyG_done (by kernel_rfl) ?_ _
              refine NoPanic.normal ?_
              go_wp2
              go_meet
              exact ⟨by rw [unhide hTT], unhide RSB⟩
        case rest =>
          obtain ⟨rfl, RV⟩ := hcut
          rename World => w6
          obtain ⟨T, hT⟩ : ∃ T, Hid (T = toB (headB 4 1 xs ++ (beL (IntKind.u64.wrap ls) 8 8 ++ beL (DD : Int) 1 1))) := ⟨_, rfl⟩
          have hTs : T.size ≤ 1000100 := by
            rw [unhide hT, toB_append, ByteArray.size_append, unhide hT0, toB_size, List.length_append, beL_len, beL_len]
            omega
          rw [← unhide hT]
          go_wp2_with fail
          go_loopw [28, 249] (fun s28 s wr => ∃ k : Nat, k ≤ ys.length ∧ s = .int .i64 (k : Int) ∧ OwnU wr w6.heap.size s28 ((ys.map (offN ls)).take k) ∧ Below w6.heap.size w6 wr) (fun _ s _ => ys.length - (intOf s).toNat)
          case atStart => exact ⟨0, Nat.zero_le _, rfl, World.ownsRow_nil _ _ _ _, Below.refl _ _⟩
          case round =>
            obtain ⟨k, hk, rfl, ho, hb⟩ := hrel
            by_cases h8 : k < ys.length
            · have h9 : (k : Int) < (ys.length : Int) := by omega
              obtain ⟨x, hx⟩ : ∃ x, ys[k]? = some x := ⟨_, List.getElem?_eq_getElem h8⟩
              rcases ((unhide RV).later hb).r7 with e | ⟨rb, ro, rfl, hc⟩
              · rw [e] at hx; cases hx
              obtain ⟨d0, d1, d2⟩ := hc k x hx
              have bl := below_alloc (Below.refl _ wr) (.cells #[.int .i64 x.k, .int .i64 x.n, .string x.s] 59)
              have HO1 := hide (ho.later bl)
              have HB1 := hide (below_step hb bl)
              have HKL : Hid (((ys.map (offN ls)).take k).length ≤ 1048576) := by show _ ≤ _; rw [List.length_take]; omega
              have HMK : Hid ((ys.map (offN ls)).take (k + 1) = (ys.map (offN ls)).take k ++ [offN ls x]) := by
                show _ = _
                have h2 : (ys.map (offN ls))[k]? = some (offN ls x) := by simp [hx]
                obtain ⟨h3, h4⟩ := List.getElem?_eq_some_iff.1 h2
                rw [List.take_succ_eq_append_getElem h3, h4]
              have hw1 := offN_wrap ls x
              generalize offN ls x = pp at *
              clear hc hx ho hb bl
              go_wp2_with (at_builtin; refine wpList_append_num' (wr.alloc (.cells #[.int .i64 x.k, .int .i64 x.n, .string x.s] 59)) pp (wr.heap.size + 1) (by simp) rfl (.tmp 253) (.tmp 259) rfl w6.heap.size _ _ rfl rfl (unhide HO1) (unhide HKL) (unhide HB1).size ?_; intro v1 w8 g1 g2; replace g1 := hide g1; replace g2 := hide g2)
              go_roundw
              case rel => exact ⟨k + 1, by omega, by go_num, by rw [unhide HMK]; exact unhide g1, (unhide HB1).trans (unhide g2)⟩
              case measure => first | (simp [intOf]; omega) | (simp only [intOf]; omega)
            · have h9 : ¬ (k : Int) < (ys.length : Int) := by omega
              have hk8 : k = (ys.map (offN ls)).length := by rw [List.length_map]; omega
              rw [hk8, List.take_length] at ho
              obtain ⟨a10, c10, e10, hlis⟩ := ho.lis
              have HBT := hide (rbits_any a10 c10 (ys.map (offN ls)) DD wr (by rw [List.length_map]; omega) hDD (fun m hm => by
                obtain ⟨x, _, rfl⟩ := List.mem_map.1 hm
                exact offN_lt ls x) hlis)
              have HBE := hide (below_step (unhide RV).bel hb)
              subst e10
              rw [List.length_map] at HBT
              obtain ⟨T4, hT4⟩ : ∃ T4, Hid (toB (leB (total DD (ys.map (offN ls))) (bytesN ys.length DD)) = T4) := ⟨_, rfl⟩
              have hT4s : T4.size ≤ 1000000 := by
                rw [← unhide hT4, toB_size, leB_len]
                have h7 : ys.length * DD ≤ 4096 * 64 := Nat.mul_le_mul hyl hDD
                unfold bytesN
                omega
              have HFN : Hid (T ++ T4 = toB (headB 4 1 xs ++ offsR Wd ys)) := by
                show _ = _
                rw [unhide hT, ← unhide hT4, unhide HOR, ← toB_append, List.append_assoc]
              rw [unhide hT4] at HBT
              have HSS : Hid (∃ S, S.Perm ys ∧ Rises S ∧ offsR Wd ys = offsR (unlT S S.length) ys) := ⟨S, (unhide HS).1, (unhide HS).2, by rw [unhide hWd]⟩
              clear ho hb hk8 hlis
              go_wp2_with (go_at_call 82; refine (unhide HBT).mono ?_; rintro e w7 ⟨rfl, hb7⟩; replace hb7 := hide hb7)
              refine bodyPost_ret (v := .tuple #[.string (T ++ T4), .int .i64 0]) (by simp [results, Tryz.results62, go_sem]) rfl ⟨offsR Wd ys, by rw [unhide HFN], .inr (.inr (.inr ⟨rfl, unhide HSS⟩)), below_step (unhide HBE) (unhide hb7)⟩
end Go.Proofs.YthbfomcmjjnikaaGreat
