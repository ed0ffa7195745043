import Derived.Test.YtihkflcdphebmabPackY
set_option linter.unusedSimpArgs false
set_option linter.unusedVariables false
namespace Go.Proofs.Ytihkflcdphebmab
open Go.RowKit Go.Sort

set_option maxHeartbeats 8000000 in
set_option maxRecDepth 100000 in
theorem pwrite_ok (X : Vc) (p : Sl) (n kd : Nat) (w : World) (hs : small X) (hp : VecAt w X p) (hg : goodB X = true) (hn : n = 1 ∨ n = 2 ∨ n = 3 ∨ n = 4) (hk : X.k = (kd : Int)) (hkd : kd = 1 ∨ kd = 2) (h4 : ¬ (n = 4 ∧ kd = 2)) (hl : X.nl.length ≤ 4096) :
    Calls Try.prog 29 #[vecV X p, .int .i64 (n : Int)] w fun e w' => ∃ b, e = .returned (.tuple #[.string (toB (headB n kd (valsV X) ++ b)), .int .i64 0]) ∧ BodyB n (standL (valsV X)) b ∧ Below w.heap.size w w' := by
  rw [vecV_open]
  have bl := below_alloc (Below.refl _ w) (.cells #[.int .i64 X.k, .slice p.a1 X.nl.length p.c1, .slice p.a2 X.ns.length p.c2, .slice p.a3 X.ss.length p.c3] 27)
  have HG := hide (good_any X p _ hs (hp.later bl))
  rw [vecV_open] at HG
  rw [hg] at HG
  have HVL : Hid ((valsV X).length ≤ 4096) := by show _ ≤ _; rw [vals_len hg]; exact hl
  have HVS : Hid (∀ x ∈ valsV X, x.s.size ≤ 1000) := fun x hx => vals_size hg hx
  have HV : Hid (∀ W, Below w.heap.size w W → Calls Try.prog 18 #[.agg #[.int .i64 (kd : Int), .slice p.a1 X.nl.length p.c1, .slice p.a2 X.ns.length p.c2, .slice p.a3 X.ss.length p.c3]] W fun e w' => ∃ v, e = .returned v ∧ Hid (OwnV w' W.heap.size v (valsV X)) ∧ Below W.heap.size W w') := fun W hW => by
    have := values_any X p W hs (hp.later hW)
    rw [vecV_open, hk] at this
    exact this
  have HW : Hid (∀ W b0 vv, Hid (OwnV W b0 vv (valsV X)) → Calls Try.prog 46 #[.int .i64 (kd : Int), vv, .int .i64 (n : Int)] W fun e w' => ∃ v' b, e = .returned v' ∧ Hid (BodyB n (standL (valsV X)) b) ∧ Hid (OwnB w' W.heap.size v' (headB n kd (valsV X) ++ b)) ∧ Below W.heap.size W w') := fun W b0 vv h => written_any n kd b0 (valsV X) vv W hn (by omega) (unhide HVL) (unhide HVS) h
  have i0 : ¬ (4096 : Int) < (X.nl.length : Int) := by omega
  have i1 : ¬ (n : Int) < 1 := by omega
  have i2 : ¬ (4 : Int) < (n : Int) := by omega
  have hc : ((n : Int) == 4) = true ∧ ((kd : Int) == 2) = false ∨ ((n : Int) == 4) = false := by
    by_cases h : n = 4
    · subst h
      have : kd = 1 := by omega
      subst this
      exact .inl ⟨rfl, rfl⟩
    · right
      simp
      omega
  rw [hk] at bl HG ⊢
  have FACT : Hid (∀ w1, Below (w.alloc (.cells #[.int .i64 (kd : Int), .slice p.a1 X.nl.length p.c1, .slice p.a2 X.ns.length p.c2, .slice p.a3 X.ss.length p.c3] 27)).heap.size (w.alloc (.cells #[.int .i64 (kd : Int), .slice p.a1 X.nl.length p.c1, .slice p.a2 X.ns.length p.c2, .slice p.a3 X.ss.length p.c3] 27)) w1 → w1.cell? ⟨w.heap.size, 0, none⟩ = some (.int .i64 (kd : Int)) ∧ w1.cell? ⟨w.heap.size, 1, none⟩ = some (.slice p.a1 X.nl.length p.c1) ∧ w1.cell? ⟨w.heap.size, 2, none⟩ = some (.slice p.a2 X.ns.length p.c2) ∧ w1.cell? ⟨w.heap.size, 3, none⟩ = some (.slice p.a3 X.ss.length p.c3) ∧ Hid (Below w.heap.size w w1)) := fun w1 hb1 => by
    obtain ⟨hc1, _⟩ := bcell hb1
    refine ⟨?_, ?_, ?_, ?_, below_step bl hb1⟩ <;> (rw [hc1 _ _ (by simp)]; simp [go_sem])
  clear hg bl hk hkd h4 hn hs hp hl
  rcases hc with ⟨e4, e5⟩ | e4
  all_goals
    go_enter Try.func29, Try.ntmps29
    go_upto_region 8 with (first | (go_at_call 14; refine (unhide HG).mono ?_; rintro e w1 ⟨rfl, hb1⟩; obtain ⟨c0, c1, c2, c3, hbb⟩ := unhide FACT _ hb1; clear hb1) | fail)
    have hS0 : Box4 w1.drew w.heap.size ⟨(kd : Int), X.nl, X.ns, X.ss⟩ p := ⟨c0, c1, c2, c3⟩
    have hbd : Below w.heap.size w w1.drew := (unhide hbb).drew
    clear c0 c1 c2 c3
    refine wp_region_noPanic ?_
    refine wp_region_G (S := fun w' : World => Box4 w' w.heap.size ⟨(kd : Int), X.nl, X.ns, X.ss⟩ p) (k := 5) (by kernel_rfl) ?_
    refine anyG_takel (i := 0) (v := (.pointer (some ⟨w.heap.size, 0, none⟩))) [1, 5] rfl (by kernel_rfl) (by kernel_rfl) (by kernel_rfl) (by kernel_rfl) (fun _ _ _ h => h) (Or.inl ⟨by rfl, fun w' hSw => ?_⟩) hS0 ?_
    · obtain ⟨s0, s1, s2, s3⟩ := hSw; go_simp
    try simp only [Act.put, List.setIfInBounds_toArray, List.set_cons_zero, List.set_cons_succ]
    refine anyG_takel (i := 1) (v := (.int .i64 (kd : Int))) [5] rfl (by kernel_rfl) (by kernel_rfl) (by kernel_rfl) (by kernel_rfl) (fun _ _ _ h => h) (Or.inl ⟨by rfl, fun w' hSw => ?_⟩) hS0 ?_
    · obtain ⟨s0, s1, s2, s3⟩ := hSw; go_simp
    try simp only [Act.put, List.setIfInBounds_toArray, List.set_cons_zero, List.set_cons_succ]
    refine anyG_takel (i := 2) (v := (.agg #[.int .i64 (kd : Int), .slice p.a1 X.nl.length p.c1, .slice p.a2 X.ns.length p.c2, .slice p.a3 X.ss.length p.c3])) [3, 5] rfl (by kernel_rfl) (by kernel_rfl) (by kernel_rfl) (by kernel_rfl) (fun _ _ _ h => h) (Or.inl ⟨by rfl, fun w' hSw => ?_⟩) hS0 ?_
    · obtain ⟨s0, s1, s2, s3⟩ := hSw; go_simp
    try simp only [Act.put, List.setIfInBounds_toArray, List.set_cons_zero, List.set_cons_succ]
    refine anyG_takel (i := 4) (v := (.int .i64 (n : Int))) [5] rfl (by kernel_rfl) (by kernel_rfl) (by kernel_rfl) (by kernel_rfl) (fun _ _ _ h => h) (Or.inl ⟨by rfl, fun w' hSw => ?_⟩) hS0 ?_
    · obtain ⟨s0, s1, s2, s3⟩ := hSw; go_simp
    try simp only [Act.put, List.setIfInBounds_toArray, List.set_cons_zero, List.set_cons_succ]
    refine anyG_one (i := 3) (by kernel_rfl) ?_
    refine wpOp_lit rfl (by rfl) fun K hK => ?_
    go_simp
    refine (unhide HV _ hbd).mono ?_
    rintro e w2 ⟨v2, rfl, HO2, hb2⟩
    have hS2 := hS0.later hb2
    have HB2 := hide (below_step hbd hb2)
    clear hS0 hb2 hbd
    go_simp
    refine unhide hK _ _ ⟨fun _ => hS2, ?_⟩
    clear hK K
    refine anyG_one (i := 5) (by kernel_rfl) ?_
    refine wpOp_lit rfl (by rfl) fun K hK => ?_
    go_simp
    refine (unhide HW _ _ _ HO2).mono ?_
    rintro e w3 ⟨v3, b, rfl, HBY, HO3, hb3⟩
    have HB3 := hide (below_step (unhide HB2) hb3)
    have hcv := convert_own (unhide HO3)
    clear hb3
    go_simp
    refine unhide hK _ _ ⟨fun hh => absurd hh (by decide), ?_⟩
    clear hK K
    refine anyG_one (i := 6) (by kernel_rfl) ?_
    refine wpOp_lit rfl (by rfl) fun K hK => ?_
    go_simp
    refine unhide hK _ _ ⟨fun hh => absurd hh (by decide), ?_⟩
    clear hK K
    refine anyG_one (i := 7) (by kernel_rfl) ?_
    refine wpOp_lit rfl (by rfl) fun K hK => ?_
    go_simp
    refine unhide hK _ _ ⟨fun hh => absurd hh (by decide), ?_⟩
    clear hK K
    refine anyG_one (i := 8) (by kernel_rfl) ?_
    refine wpOp_lit rfl (by rfl) fun K hK => ?_
    go_simp
    refine unhide hK _ _ ⟨fun hh => absurd hh (by decide), ?_⟩
    clear hK K
    refine anyG_done (by kernel_rfl) ?_ _
    refine NoPanic.normal ?_
    go_wp2
    refine bodyPost_ret (v := .tuple #[.string (toB (headB n kd (valsV X) ++ b)), .int .i64 0]) (by simp [results, Try.results29, go_sem]) rfl ⟨b, rfl, unhide HBY, unhide HB3⟩
end Go.Proofs.Ytihkflcdphebmab
