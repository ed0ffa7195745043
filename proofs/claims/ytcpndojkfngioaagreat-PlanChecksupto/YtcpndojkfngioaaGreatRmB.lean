import Derived.Test.YtcpndojkfngioaaGreatRmA
set_option linter.unusedSimpArgs false
set_option linter.unusedVariables false
set_option maxRecDepth 100000
namespace Go.Proofs.YtcpndojkfngioaaGreat
open Go.RowKit Go.Sort

set_option maxHeartbeats 400000 in
theorem needs_any (op : Int) (w : World) : Calls Tryz.prog 106 #[.int .i64 op] w fun e w' => e = .returned (.int .i64 (arI op)) ∧ w' = w := by
  by_cases h1 : op = 1
  · subst h1
    go_enter Tryz.func106, Tryz.ntmps106
    go_wp2
    go_ret
    exact ⟨rfl, rfl⟩
  by_cases h2 : op = 2
  · subst h2
    go_enter Tryz.func106, Tryz.ntmps106
    go_wp2
    go_ret
    exact ⟨rfl, rfl⟩
  have e1 : (op == 1) = false := by simpa using h1
  have e2 : (op == 2) = false := by simpa using h2
  by_cases h3 : 3 ≤ op ∧ op ≤ 6
  · obtain ⟨h3, h4⟩ := h3
    have e : arI op = 1 := by simp [arI, e1, e2, h3, h4]
    rw [e]
    clear h1 h2 e
    go_enter Tryz.func106, Tryz.ntmps106
    go_wp2
    go_ret
    exact ⟨rfl, rfl⟩
  by_cases h7 : 7 ≤ op ∧ op ≤ 20
  · obtain ⟨h5, h6⟩ := h7
    have e : arI op = 2 := by
      have : ¬ op ≤ 6 := by omega
      simp [arI, e1, e2, h5, h6, this]
    rw [e]
    have h3' : 3 ≤ op := by omega
    have h4' : ¬ op ≤ 6 := by omega
    clear h1 h2 e h3
    go_enter Tryz.func106, Tryz.ntmps106
    go_wp2
    go_ret
    exact ⟨rfl, rfl⟩
  by_cases h21 : op = 21
  · subst h21
    go_enter Tryz.func106, Tryz.ntmps106
    go_wp2
    go_ret
    exact ⟨rfl, rfl⟩
  have e21 : (op == 21) = false := by simpa using h21
  have e : arI op = -1 := by
    unfold arI
    rw [e1, e2, e21]
    have g1 : (decide (3 ≤ op) && decide (op ≤ 6)) = false := by simp; omega
    have g2 : (decide (7 ≤ op) && decide (op ≤ 20)) = false := by simp; omega
    rw [g1, g2]; rfl
  rw [e]
  have hc : (¬ 3 ≤ op) ∨ (3 ≤ op ∧ ¬ op ≤ 6 ∧ 7 ≤ op ∧ ¬ op ≤ 20) := by omega
  clear h1 h2 h21 e h3 h7
  rcases hc with h3 | ⟨h3, h4, h5, h6⟩
  · have h5 : ¬ 7 ≤ op := by omega
    go_enter Tryz.func106, Tryz.ntmps106
    go_wp2
    go_ret
    exact ⟨rfl, rfl⟩
  · go_enter Tryz.func106, Tryz.ntmps106
    go_wp2
    go_ret
    exact ⟨rfl, rfl⟩
set_option maxHeartbeats 4000000 in
set_option maxRecDepth 100000 in
theorem rmeas_step (e : Ex) (hf : e.fin) (N H : Int) (a : Option Addr) (c : Nat) (w : World) (hN0 : 0 ≤ N) (hN : N ≤ 400) (hH0 : 1 ≤ H) (hH : H ≤ 40) (ha : Ex.all w a e.args)
    (IH : ∀ (i : Nat) (x : Ex), e.args[i]? = some x → ∀ (N' H' : Int) (a' : Option Addr) (c' : Nat) (W : World), 0 ≤ N' → N' ≤ 401 → 1 ≤ H' → H' ≤ 41 → Ex.all W a' x.args → Calls Tryz.prog 77 #[x.val a' c', .int .i64 N', .int .i64 H'] W fun r w' => r = M3 (rmE x N' H') ∧ Below W.heap.size W w') :
    Calls Tryz.prog 77 #[e.val a c, .int .i64 N, .int .i64 H] w fun r w' => r = M3 (rmE e N H) ∧ Below w.heap.size w w' := by
  have HIH := hide IH
  have HAL := hide ha
  obtain ⟨R, hR⟩ : ∃ R, R = rmE e N H := ⟨_, rfl⟩
  have HR : Hid (R = if (rmL e.args (N + 1) H H).2.2 then ((rmL e.args (N + 1) H H).1, (rmL e.args (N + 1) H H).2.1, soundE e) else ((rmL e.args (N + 1) H H).1, (rmL e.args (N + 1) H H).2.1, false)) := by
    show _ = _
    rw [hR, rmE_eq, if_neg (by simp only [Bool.or_eq_true, decide_eq_true_eq, not_or]; omega)]
  rw [← hR]
  clear hR IH ha
  obtain ⟨⟨hml, hvs0, _, _⟩, _⟩ := Ex.fin_open hf
  have HNE := hide (fun W => needs_any e.op W)
  have HCL := hide (fun W => rclean_any e.v W)
  have hcsz : (cleanV e.v).s.size ≤ 140737488355328 := Nat.le_trans (clean_size _) hvs0
  have n1 : ¬ 400 < N := by omega
  have n2 : ¬ 40 < H := by omega
  have HB0 := hide (below_alloc (Below.refl _ w) (.cells #[.int .i64 e.op, .int .i64 e.n, .int .i64 e.v.k, .int .i64 e.v.n, .string e.v.s, .slice a e.args.length c] 74))
  have H6 : Hid (Six (w.alloc (.cells #[.int .i64 e.op, .int .i64 e.n, .int .i64 e.v.k, .int .i64 e.v.n, .string e.v.s, .slice a e.args.length c] 74)) w.heap.size e a c) := Six.new w e a c
  have HX : Hid (soundE e = (((e.args.length : Int) == arI e.op) && (if e.op == 1 then decide (0 ≤ e.n) else if e.op == 2 then decide ((cleanV e.v).s.size ≤ 1000) else true))) := rfl
  rw [Ex.val_open]
  go_enter Tryz.func77, Tryz.ntmps77
  go_upto_region 3 with fail
  obtain ⟨wa, hwa⟩ : ∃ wa, wa = w.alloc (.cells #[.int .i64 e.op, .int .i64 e.n, .int .i64 e.v.k, .int .i64 e.v.n, .string e.v.s, .slice a e.args.length c] 74) := ⟨_, rfl⟩
  rw [← hwa] at HB0 H6 ⊢
  clear hwa
  unfold Six at H6
  have H6x := hide (unhide H6)
  go_cut [9] (fun v wx => v = .bool (soundE e) ∧ Hid (Below wa.heap.size wa wx))
  case first =>
    rw [Val.open_] at HCL
    obtain ⟨R, hR⟩ : ∃ R, R = soundE e := ⟨_, rfl⟩
    obtain ⟨op, hop⟩ : ∃ x, x = e.op := ⟨_, rfl⟩
    obtain ⟨n, hn⟩ : ∃ x, x = e.n := ⟨_, rfl⟩
    obtain ⟨cv, hcv⟩ : ∃ x, x = cleanV e.v := ⟨_, rfl⟩
    obtain ⟨vk, hvk⟩ : ∃ x, x = e.v.k := ⟨_, rfl⟩
    obtain ⟨vn, hvn⟩ : ∃ x, x = e.v.n := ⟨_, rfl⟩
    obtain ⟨vs, hvs⟩ : ∃ x, x = e.v.s := ⟨_, rfl⟩
    obtain ⟨m, hm⟩ : ∃ x, x = e.args.length := ⟨_, rfl⟩
    obtain ⟨ar, har⟩ : ∃ x, x = arI e.op := ⟨_, rfl⟩
    rw [← hR] at HX
    rw [← hcv] at HX HCL hcsz
    rw [← har] at HX HNE
    rw [← hop, ← hn, ← hvk, ← hvn, ← hvs, ← hm] at H6
    rw [← hop] at HNE
    rw [← hvk, ← hvn, ← hvs] at HCL
    rw [← hop, ← hn, ← hm] at HX
    rw [← hm] at hml
    have HRR := hide hR
    have hfl := field2 cv.k cv.n cv.s
    obtain ⟨c0, c1, c2, c3, c4, c5⟩ := unhide H6
    clear hR hop hn hcv hvk hvn hvs hm har H6
    by_cases h7 : ar = (m : Int)
    · subst h7
      by_cases h1 : op = 1
      · subst h1
        by_cases h0 : 0 ≤ n
        · skip
          have HE : Hid (soundE e = true) := by show _ = _; rw [← unhide HRR, unhide HX]; simp [*]
          clear HX HRR
          refine wp_region_noPanic ?_
          refine wp_region_G (S := fun w' : World => Below wa.heap.size wa w') (k := 32) (by kernel_rfl) ?_
          refine anyG_takel (i := 0) (v := (.pointer (some ⟨w.heap.size, 0, none⟩))) [1, 2, 6, 7, 8, 9, 10, 11, 12, 13, 14, 15, 16, 17, 18, 19, 20, 21, 22, 23, 24, 25, 26, 27, 28, 29, 30, 31, 32] rfl (by kernel_rfl) (by kernel_rfl) (by kernel_rfl) (by kernel_rfl) (fun _ _ _ h => h) (Or.inl ⟨by rfl, fun w' hSw => ?_⟩) ((Below.refl _ wa).drew) ?_
          · have e0 := clater c0 hSw; have e1 := clater c1 hSw; have e2 := clater c2 hSw; have e3 := clater c3 hSw; have e4 := clater c4 hSw; have e5 := clater c5 hSw
            clear c0 c1 c2 c3 c4 c5
            go_simp
          try simp only [Act.put, List.setIfInBounds_toArray, List.set_cons_zero, List.set_cons_succ]
          refine anyG_takel (i := 1) (v := (.int .i64 1)) [2, 6, 7, 8, 9, 10, 11, 12, 13, 14, 15, 16, 17, 18, 19, 20, 21, 22, 23, 24, 25, 26, 27, 28, 29, 30, 31, 32] rfl (by kernel_rfl) (by kernel_rfl) (by kernel_rfl) (by kernel_rfl) (fun _ _ _ h => h) (Or.inl ⟨by rfl, fun w' hSw => ?_⟩) ((Below.refl _ wa).drew) ?_
          · have e0 := clater c0 hSw; have e1 := clater c1 hSw; have e2 := clater c2 hSw; have e3 := clater c3 hSw; have e4 := clater c4 hSw; have e5 := clater c5 hSw
            clear c0 c1 c2 c3 c4 c5
            go_simp
          try simp only [Act.put, List.setIfInBounds_toArray, List.set_cons_zero, List.set_cons_succ]
          refine anyG_takel (i := 3) (v := (.pointer (some ⟨w.heap.size, 5, none⟩))) [4, 5, 6, 7, 8, 9, 10, 11, 12, 13, 14, 15, 16, 17, 18, 19, 20, 21, 22, 23, 24, 25, 26, 27, 28, 29, 30, 31, 32] rfl (by kernel_rfl) (by kernel_rfl) (by kernel_rfl) (by kernel_rfl) (fun _ _ _ h => h) (Or.inl ⟨by rfl, fun w' hSw => ?_⟩) ((Below.refl _ wa).drew) ?_
          · have e0 := clater c0 hSw; have e1 := clater c1 hSw; have e2 := clater c2 hSw; have e3 := clater c3 hSw; have e4 := clater c4 hSw; have e5 := clater c5 hSw
            clear c0 c1 c2 c3 c4 c5
            go_simp
          try simp only [Act.put, List.setIfInBounds_toArray, List.set_cons_zero, List.set_cons_succ]
          refine anyG_takel (i := 4) (v := (.slice a m c)) [5, 6, 7, 8, 9, 10, 11, 12, 13, 14, 15, 16, 17, 18, 19, 20, 21, 22, 23, 24, 25, 26, 27, 28, 29, 30, 31, 32] rfl (by kernel_rfl) (by kernel_rfl) (by kernel_rfl) (by kernel_rfl) (fun _ _ _ h => h) (Or.inl ⟨by rfl, fun w' hSw => ?_⟩) ((Below.refl _ wa).drew) ?_
          · have e0 := clater c0 hSw; have e1 := clater c1 hSw; have e2 := clater c2 hSw; have e3 := clater c3 hSw; have e4 := clater c4 hSw; have e5 := clater c5 hSw
            clear c0 c1 c2 c3 c4 c5
            go_simp
          try simp only [Act.put, List.setIfInBounds_toArray, List.set_cons_zero, List.set_cons_succ]
          refine anyG_takel (i := 5) (v := (.int .i64 (m : Int))) [6, 7, 8, 9, 10, 11, 12, 13, 14, 15, 16, 17, 18, 19, 20, 21, 22, 23, 24, 25, 26, 27, 28, 29, 30, 31, 32] rfl (by kernel_rfl) (by kernel_rfl) (by kernel_rfl) (by kernel_rfl) (fun _ _ _ h => h) (Or.inl ⟨by rfl, fun w' hSw => ?_⟩) ((Below.refl _ wa).drew) ?_
          · have e0 := clater c0 hSw; have e1 := clater c1 hSw; have e2 := clater c2 hSw; have e3 := clater c3 hSw; have e4 := clater c4 hSw; have e5 := clater c5 hSw
            clear c0 c1 c2 c3 c4 c5
            go_simp
          try simp only [Act.put, List.setIfInBounds_toArray, List.set_cons_zero, List.set_cons_succ]
          refine anyG_one (i := 2) (by kernel_rfl) ?_
          refine wpOp_lit rfl (by rfl) fun K' hK' => ?_
          go_simp
          refine (unhide HNE wa.drew).mono ?_
          rintro r w1 ⟨rfl, rfl⟩
          go_simp
          have hSw1 : Below wa.heap.size wa wa.drew := (Below.refl _ wa).drew
          refine unhide hK' _ _ ⟨fun _ => hSw1, ?_⟩
          clear hK' K'
          refine anyG_takel (i := 6) (v := (.bool true)) [7, 8, 9, 10, 11, 12, 13, 14, 15, 16, 17, 18, 19, 20, 21, 22, 23, 24, 25, 26, 27, 28, 29, 30, 31, 32] rfl (by kernel_rfl) (by kernel_rfl) (by kernel_rfl) (by kernel_rfl) (fun _ _ _ h => h) (Or.inl ⟨by rfl, fun w' hSw => ?_⟩) hSw1 ?_
          · have e0 := clater c0 hSw; have e1 := clater c1 hSw; have e2 := clater c2 hSw; have e3 := clater c3 hSw; have e4 := clater c4 hSw; have e5 := clater c5 hSw
            clear c0 c1 c2 c3 c4 c5
            go_simp
          try simp only [Act.put, List.setIfInBounds_toArray, List.set_cons_zero, List.set_cons_succ]
          refine anyG_takel (i := 7) (v := (.bool true)) [8, 9, 10, 11, 12, 13, 14, 15, 16, 17, 18, 19, 20, 21, 22, 23, 24, 25, 26, 27, 28, 29, 30, 31, 32] rfl (by kernel_rfl) (by kernel_rfl) (by kernel_rfl) (by kernel_rfl) (fun _ _ _ h => h) (Or.inl ⟨by rfl, fun w' hSw => ?_⟩) hSw1 ?_
          · have e0 := clater c0 hSw; have e1 := clater c1 hSw; have e2 := clater c2 hSw; have e3 := clater c3 hSw; have e4 := clater c4 hSw; have e5 := clater c5 hSw
            clear c0 c1 c2 c3 c4 c5
            go_simp
          try simp only [Act.put, List.setIfInBounds_toArray, List.set_cons_zero, List.set_cons_succ]
          refine anyG_takel (i := 8) (v := (.pointer (some ⟨w.heap.size, 0, none⟩))) [9, 10, 11, 12, 13, 14, 15, 16, 17, 18, 19, 20, 21, 22, 23, 24, 25, 26, 27, 28, 29, 30, 31, 32] rfl (by kernel_rfl) (by kernel_rfl) (by kernel_rfl) (by kernel_rfl) (fun _ _ _ h => h) (Or.inl ⟨by rfl, fun w' hSw => ?_⟩) hSw1 ?_
          · have e0 := clater c0 hSw; have e1 := clater c1 hSw; have e2 := clater c2 hSw; have e3 := clater c3 hSw; have e4 := clater c4 hSw; have e5 := clater c5 hSw
            clear c0 c1 c2 c3 c4 c5
            go_simp
          try simp only [Act.put, List.setIfInBounds_toArray, List.set_cons_zero, List.set_cons_succ]
          refine anyG_takel (i := 9) (v := (.int .i64 1)) [10, 11, 12, 13, 14, 15, 16, 17, 18, 19, 20, 21, 22, 23, 24, 25, 26, 27, 28, 29, 30, 31, 32] rfl (by kernel_rfl) (by kernel_rfl) (by kernel_rfl) (by kernel_rfl) (fun _ _ _ h => h) (Or.inl ⟨by rfl, fun w' hSw => ?_⟩) hSw1 ?_
          · have e0 := clater c0 hSw; have e1 := clater c1 hSw; have e2 := clater c2 hSw; have e3 := clater c3 hSw; have e4 := clater c4 hSw; have e5 := clater c5 hSw
            clear c0 c1 c2 c3 c4 c5
            go_simp
          try simp only [Act.put, List.setIfInBounds_toArray, List.set_cons_zero, List.set_cons_succ]
          refine anyG_takel (i := 10) (v := (.bool true)) [11, 12, 13, 14, 15, 16, 17, 18, 19, 20, 21, 22, 23, 24, 25, 26, 27, 28, 29, 30, 31, 32] rfl (by kernel_rfl) (by kernel_rfl) (by kernel_rfl) (by kernel_rfl) (fun _ _ _ h => h) (Or.inl ⟨by rfl, fun w' hSw => ?_⟩) hSw1 ?_
          · have e0 := clater c0 hSw; have e1 := clater c1 hSw; have e2 := clater c2 hSw; have e3 := clater c3 hSw; have e4 := clater c4 hSw; have e5 := clater c5 hSw
            clear c0 c1 c2 c3 c4 c5
            go_simp
          try simp only [Act.put, List.setIfInBounds_toArray, List.set_cons_zero, List.set_cons_succ]
          refine anyG_takel (i := 11) (v := (.bool true)) [12, 13, 14, 15, 16, 17, 18, 19, 20, 21, 22, 23, 24, 25, 26, 27, 28, 29, 30, 31, 32] rfl (by kernel_rfl) (by kernel_rfl) (by kernel_rfl) (by kernel_rfl) (fun _ _ _ h => h) (Or.inl ⟨by rfl, fun w' hSw => ?_⟩) hSw1 ?_
          · have e0 := clater c0 hSw; have e1 := clater c1 hSw; have e2 := clater c2 hSw; have e3 := clater c3 hSw; have e4 := clater c4 hSw; have e5 := clater c5 hSw
            clear c0 c1 c2 c3 c4 c5
            go_simp
          try simp only [Act.put, List.setIfInBounds_toArray, List.set_cons_zero, List.set_cons_succ]
          refine anyG_takel (i := 12) (v := (.pointer (some ⟨w.heap.size, 1, none⟩))) [13, 14, 15, 16, 17, 18, 19, 20, 21, 22, 23, 24, 25, 26, 27, 28, 29, 30, 31, 32] rfl (by kernel_rfl) (by kernel_rfl) (by kernel_rfl) (by kernel_rfl) (fun _ _ _ h => h) (Or.inl ⟨by rfl, fun w' hSw => ?_⟩) hSw1 ?_
          · have e0 := clater c0 hSw; have e1 := clater c1 hSw; have e2 := clater c2 hSw; have e3 := clater c3 hSw; have e4 := clater c4 hSw; have e5 := clater c5 hSw
            clear c0 c1 c2 c3 c4 c5
            go_simp
          try simp only [Act.put, List.setIfInBounds_toArray, List.set_cons_zero, List.set_cons_succ]
          refine anyG_takel (i := 13) (v := (.int .i64 n)) [14, 15, 16, 17, 18, 19, 20, 21, 22, 23, 24, 25, 26, 27, 28, 29, 30, 31, 32] rfl (by kernel_rfl) (by kernel_rfl) (by kernel_rfl) (by kernel_rfl) (fun _ _ _ h => h) (Or.inl ⟨by rfl, fun w' hSw => ?_⟩) hSw1 ?_
          · have e0 := clater c0 hSw; have e1 := clater c1 hSw; have e2 := clater c2 hSw; have e3 := clater c3 hSw; have e4 := clater c4 hSw; have e5 := clater c5 hSw
            clear c0 c1 c2 c3 c4 c5
            go_simp
          try simp only [Act.put, List.setIfInBounds_toArray, List.set_cons_zero, List.set_cons_succ]
          refine anyG_takel (i := 14) (v := (.bool false)) [15, 16, 17, 18, 19, 20, 21, 22, 23, 24, 25, 26, 27, 28, 29, 30, 31, 32] rfl (by kernel_rfl) (by kernel_rfl) (by kernel_rfl) (by kernel_rfl) (fun _ _ _ h => h) (Or.inl ⟨by rfl, fun w' hSw => ?_⟩) hSw1 ?_
          · have e0 := clater c0 hSw; have e1 := clater c1 hSw; have e2 := clater c2 hSw; have e3 := clater c3 hSw; have e4 := clater c4 hSw; have e5 := clater c5 hSw
            clear c0 c1 c2 c3 c4 c5
            go_simp
          try simp only [Act.put, List.setIfInBounds_toArray, List.set_cons_zero, List.set_cons_succ]
          refine anyG_takel (i := 15) (v := (.bool false)) [16, 17, 18, 19, 20, 21, 22, 23, 24, 25, 26, 27, 28, 29, 30, 31, 32] rfl (by kernel_rfl) (by kernel_rfl) (by kernel_rfl) (by kernel_rfl) (fun _ _ _ h => h) (Or.inl ⟨by rfl, fun w' hSw => ?_⟩) hSw1 ?_
          · have e0 := clater c0 hSw; have e1 := clater c1 hSw; have e2 := clater c2 hSw; have e3 := clater c3 hSw; have e4 := clater c4 hSw; have e5 := clater c5 hSw
            clear c0 c1 c2 c3 c4 c5
            go_simp
          try simp only [Act.put, List.setIfInBounds_toArray, List.set_cons_zero, List.set_cons_succ]
          refine anyG_takel (i := 16) (v := (.bool true)) [17, 18, 19, 20, 21, 22, 23, 24, 25, 26, 27, 28, 29, 30, 31, 32] rfl (by kernel_rfl) (by kernel_rfl) (by kernel_rfl) (by kernel_rfl) (fun _ _ _ h => h) (Or.inl ⟨by rfl, fun w' hSw => ?_⟩) hSw1 ?_
          · have e0 := clater c0 hSw; have e1 := clater c1 hSw; have e2 := clater c2 hSw; have e3 := clater c3 hSw; have e4 := clater c4 hSw; have e5 := clater c5 hSw
            clear c0 c1 c2 c3 c4 c5
            go_simp
          try simp only [Act.put, List.setIfInBounds_toArray, List.set_cons_zero, List.set_cons_succ]
          refine anyG_takel (i := 17) (v := (.bool true)) [18, 19, 20, 21, 22, 23, 24, 25, 26, 27, 28, 29, 30, 31, 32] rfl (by kernel_rfl) (by kernel_rfl) (by kernel_rfl) (by kernel_rfl) (fun _ _ _ h => h) (Or.inl ⟨by rfl, fun w' hSw => ?_⟩) hSw1 ?_
          · have e0 := clater c0 hSw; have e1 := clater c1 hSw; have e2 := clater c2 hSw; have e3 := clater c3 hSw; have e4 := clater c4 hSw; have e5 := clater c5 hSw
            clear c0 c1 c2 c3 c4 c5
            go_simp
          try simp only [Act.put, List.setIfInBounds_toArray, List.set_cons_zero, List.set_cons_succ]
          refine anyG_takel (i := 18) (v := (.bool true)) [19, 20, 21, 22, 23, 24, 25, 26, 27, 28, 29, 30, 31, 32] rfl (by kernel_rfl) (by kernel_rfl) (by kernel_rfl) (by kernel_rfl) (fun _ _ _ h => h) (Or.inl ⟨by rfl, fun w' hSw => ?_⟩) hSw1 ?_
          · have e0 := clater c0 hSw; have e1 := clater c1 hSw; have e2 := clater c2 hSw; have e3 := clater c3 hSw; have e4 := clater c4 hSw; have e5 := clater c5 hSw
            clear c0 c1 c2 c3 c4 c5
            go_simp
          try simp only [Act.put, List.setIfInBounds_toArray, List.set_cons_zero, List.set_cons_succ]
          refine anyG_takel (i := 19) (v := (.pointer (some ⟨w.heap.size, 0, none⟩))) [20, 21, 22, 23, 24, 25, 26, 27, 28, 29, 30, 31, 32] rfl (by kernel_rfl) (by kernel_rfl) (by kernel_rfl) (by kernel_rfl) (fun _ _ _ h => h) (Or.inl ⟨by rfl, fun w' hSw => ?_⟩) hSw1 ?_
          · have e0 := clater c0 hSw; have e1 := clater c1 hSw; have e2 := clater c2 hSw; have e3 := clater c3 hSw; have e4 := clater c4 hSw; have e5 := clater c5 hSw
            clear c0 c1 c2 c3 c4 c5
            go_simp
          try simp only [Act.put, List.setIfInBounds_toArray, List.set_cons_zero, List.set_cons_succ]
          refine anyG_takel (i := 20) (v := (.int .i64 1)) [21, 22, 23, 24, 25, 26, 27, 28, 29, 30, 31, 32] rfl (by kernel_rfl) (by kernel_rfl) (by kernel_rfl) (by kernel_rfl) (fun _ _ _ h => h) (Or.inl ⟨by rfl, fun w' hSw => ?_⟩) hSw1 ?_
          · have e0 := clater c0 hSw; have e1 := clater c1 hSw; have e2 := clater c2 hSw; have e3 := clater c3 hSw; have e4 := clater c4 hSw; have e5 := clater c5 hSw
            clear c0 c1 c2 c3 c4 c5
            go_simp
          try simp only [Act.put, List.setIfInBounds_toArray, List.set_cons_zero, List.set_cons_succ]
          refine anyG_takel (i := 21) (v := (.bool false)) [22, 23, 24, 25, 26, 27, 28, 29, 30, 31, 32] rfl (by kernel_rfl) (by kernel_rfl) (by kernel_rfl) (by kernel_rfl) (fun _ _ _ h => h) (Or.inl ⟨by rfl, fun w' hSw => ?_⟩) hSw1 ?_
          · have e0 := clater c0 hSw; have e1 := clater c1 hSw; have e2 := clater c2 hSw; have e3 := clater c3 hSw; have e4 := clater c4 hSw; have e5 := clater c5 hSw
            clear c0 c1 c2 c3 c4 c5
            go_simp
          try simp only [Act.put, List.setIfInBounds_toArray, List.set_cons_zero, List.set_cons_succ]
          refine anyG_takel (i := 22) (v := (.bool false)) [23, 24, 25, 26, 27, 28, 29, 30, 31, 32] rfl (by kernel_rfl) (by kernel_rfl) (by kernel_rfl) (by kernel_rfl) (fun _ _ _ h => h) (Or.inl ⟨by rfl, fun w' hSw => ?_⟩) hSw1 ?_
          · have e0 := clater c0 hSw; have e1 := clater c1 hSw; have e2 := clater c2 hSw; have e3 := clater c3 hSw; have e4 := clater c4 hSw; have e5 := clater c5 hSw
            clear c0 c1 c2 c3 c4 c5
            go_simp
          try simp only [Act.put, List.setIfInBounds_toArray, List.set_cons_zero, List.set_cons_succ]
          refine anyG_takel (i := 23) (v := undef) [24, 25, 26, 27, 28, 29, 30, 31, 32] rfl (by kernel_rfl) (by kernel_rfl) (by kernel_rfl) (by kernel_rfl) (fun _ _ _ h => h) (Or.inr ⟨by rfl, rfl⟩) hSw1 ?_
          try simp only [Act.put, List.setIfInBounds_toArray, List.set_cons_zero, List.set_cons_succ]
          refine anyG_takel (i := 24) (v := undef) [25, 26, 27, 28, 29, 30, 31, 32] rfl (by kernel_rfl) (by kernel_rfl) (by kernel_rfl) (by kernel_rfl) (fun _ _ _ h => h) (Or.inr ⟨by rfl, rfl⟩) hSw1 ?_
          try simp only [Act.put, List.setIfInBounds_toArray, List.set_cons_zero, List.set_cons_succ]
          refine anyG_one (i := 25) (by kernel_rfl) ?_
          refine wpOp_noR rfl (by rfl) ⟨fun _ => hSw1, ?_⟩
          try simp only [Act.put, List.setIfInBounds_toArray, List.set_cons_zero, List.set_cons_succ]
          refine anyG_takel (i := 26) (v := undef) [27, 28, 29, 30, 31, 32] rfl (by kernel_rfl) (by kernel_rfl) (by kernel_rfl) (by kernel_rfl) (fun _ _ _ h => h) (Or.inr ⟨by rfl, rfl⟩) hSw1 ?_
          try simp only [Act.put, List.setIfInBounds_toArray, List.set_cons_zero, List.set_cons_succ]
          refine anyG_takel (i := 27) (v := undef) [28, 29, 30, 31, 32] rfl (by kernel_rfl) (by kernel_rfl) (by kernel_rfl) (by kernel_rfl) (fun _ _ _ h => h) (Or.inr ⟨by rfl, rfl⟩) hSw1 ?_
          try simp only [Act.put, List.setIfInBounds_toArray, List.set_cons_zero, List.set_cons_succ]
          refine anyG_takel (i := 28) (v := undef) [29, 30, 31, 32] rfl (by kernel_rfl) (by kernel_rfl) (by kernel_rfl) (by kernel_rfl) (fun _ _ _ h => h) (Or.inr ⟨by rfl, rfl⟩) hSw1 ?_
          try simp only [Act.put, List.setIfInBounds_toArray, List.set_cons_zero, List.set_cons_succ]
          refine anyG_takel (i := 29) (v := (.bool false)) [30, 31, 32] rfl (by kernel_rfl) (by kernel_rfl) (by kernel_rfl) (by kernel_rfl) (fun _ _ _ h => h) (Or.inl ⟨by rfl, fun w' hSw => ?_⟩) hSw1 ?_
          · have e0 := clater c0 hSw; have e1 := clater c1 hSw; have e2 := clater c2 hSw; have e3 := clater c3 hSw; have e4 := clater c4 hSw; have e5 := clater c5 hSw
            clear c0 c1 c2 c3 c4 c5
            go_simp
          try simp only [Act.put, List.setIfInBounds_toArray, List.set_cons_zero, List.set_cons_succ]
          refine anyG_takel (i := 30) (v := (.bool true)) [31, 32] rfl (by kernel_rfl) (by kernel_rfl) (by kernel_rfl) (by kernel_rfl) (fun _ _ _ h => h) (Or.inl ⟨by rfl, fun w' hSw => ?_⟩) hSw1 ?_
          · have e0 := clater c0 hSw; have e1 := clater c1 hSw; have e2 := clater c2 hSw; have e3 := clater c3 hSw; have e4 := clater c4 hSw; have e5 := clater c5 hSw
            clear c0 c1 c2 c3 c4 c5
            go_simp
          try simp only [Act.put, List.setIfInBounds_toArray, List.set_cons_zero, List.set_cons_succ]
          refine anyG_takel (i := 31) (v := (.bool true)) [32] rfl (by kernel_rfl) (by kernel_rfl) (by kernel_rfl) (by kernel_rfl) (fun _ _ _ h => h) (Or.inl ⟨by rfl, fun w' hSw => ?_⟩) hSw1 ?_
          · have e0 := clater c0 hSw; have e1 := clater c1 hSw; have e2 := clater c2 hSw; have e3 := clater c3 hSw; have e4 := clater c4 hSw; have e5 := clater c5 hSw
            clear c0 c1 c2 c3 c4 c5
            go_simp
          try simp only [Act.put, List.setIfInBounds_toArray, List.set_cons_zero, List.set_cons_succ]
          refine anyG_one (i := 32) (by kernel_rfl) ?_
          refine wpOp_lit rfl (by rfl) fun K' hK' => ?_
          go_simp
          refine unhide hK' _ _ ⟨fun hh => absurd hh (by decide), ?_⟩
          clear hK' K'
          refine anyG_done (by kernel_rfl) ?_ _
          refine NoPanic.normal ?_
          clear c0 c1 c2 c3 c4 c5
          go_wp2
          go_meet
          exact ⟨(by rw [unhide HE]), hSw1⟩
        · have h0' : n < 0 := by omega
          have HE : Hid (soundE e = false) := by show _ = _; rw [← unhide HRR, unhide HX]; simp [*]
          clear HX HRR
          refine wp_region_noPanic ?_
          refine wp_region_G (S := fun w' : World => Below wa.heap.size wa w') (k := 32) (by kernel_rfl) ?_
          refine anyG_takel (i := 0) (v := (.pointer (some ⟨w.heap.size, 0, none⟩))) [1, 2, 6, 7, 8, 9, 10, 11, 12, 13, 14, 15, 16, 17, 18, 19, 20, 21, 22, 23, 24, 25, 26, 27, 28, 29, 30, 31, 32] rfl (by kernel_rfl) (by kernel_rfl) (by kernel_rfl) (by kernel_rfl) (fun _ _ _ h => h) (Or.inl ⟨by rfl, fun w' hSw => ?_⟩) ((Below.refl _ wa).drew) ?_
          · have e0 := clater c0 hSw; have e1 := clater c1 hSw; have e2 := clater c2 hSw; have e3 := clater c3 hSw; have e4 := clater c4 hSw; have e5 := clater c5 hSw
            clear c0 c1 c2 c3 c4 c5
            go_simp
          try simp only [Act.put, List.setIfInBounds_toArray, List.set_cons_zero, List.set_cons_succ]
          refine anyG_takel (i := 1) (v := (.int .i64 1)) [2, 6, 7, 8, 9, 10, 11, 12, 13, 14, 15, 16, 17, 18, 19, 20, 21, 22, 23, 24, 25, 26, 27, 28, 29, 30, 31, 32] rfl (by kernel_rfl) (by kernel_rfl) (by kernel_rfl) (by kernel_rfl) (fun _ _ _ h => h) (Or.inl ⟨by rfl, fun w' hSw => ?_⟩) ((Below.refl _ wa).drew) ?_
          · have e0 := clater c0 hSw; have e1 := clater c1 hSw; have e2 := clater c2 hSw; have e3 := clater c3 hSw; have e4 := clater c4 hSw; have e5 := clater c5 hSw
            clear c0 c1 c2 c3 c4 c5
            go_simp
          try simp only [Act.put, List.setIfInBounds_toArray, List.set_cons_zero, List.set_cons_succ]
          refine anyG_takel (i := 3) (v := (.pointer (some ⟨w.heap.size, 5, none⟩))) [4, 5, 6, 7, 8, 9, 10, 11, 12, 13, 14, 15, 16, 17, 18, 19, 20, 21, 22, 23, 24, 25, 26, 27, 28, 29, 30, 31, 32] rfl (by kernel_rfl) (by kernel_rfl) (by kernel_rfl) (by kernel_rfl) (fun _ _ _ h => h) (Or.inl ⟨by rfl, fun w' hSw => ?_⟩) ((Below.refl _ wa).drew) ?_
          · have e0 := clater c0 hSw; have e1 := clater c1 hSw; have e2 := clater c2 hSw; have e3 := clater c3 hSw; have e4 := clater c4 hSw; have e5 := clater c5 hSw
            clear c0 c1 c2 c3 c4 c5
            go_simp
          try simp only [Act.put, List.setIfInBounds_toArray, List.set_cons_zero, List.set_cons_succ]
          refine anyG_takel (i := 4) (v := (.slice a m c)) [5, 6, 7, 8, 9, 10, 11, 12, 13, 14, 15, 16, 17, 18, 19, 20, 21, 22, 23, 24, 25, 26, 27, 28, 29, 30, 31, 32] rfl (by kernel_rfl) (by kernel_rfl) (by kernel_rfl) (by kernel_rfl) (fun _ _ _ h => h) (Or.inl ⟨by rfl, fun w' hSw => ?_⟩) ((Below.refl _ wa).drew) ?_
          · have e0 := clater c0 hSw; have e1 := clater c1 hSw; have e2 := clater c2 hSw; have e3 := clater c3 hSw; have e4 := clater c4 hSw; have e5 := clater c5 hSw
            clear c0 c1 c2 c3 c4 c5
            go_simp
          try simp only [Act.put, List.setIfInBounds_toArray, List.set_cons_zero, List.set_cons_succ]
          refine anyG_takel (i := 5) (v := (.int .i64 (m : Int))) [6, 7, 8, 9, 10, 11, 12, 13, 14, 15, 16, 17, 18, 19, 20, 21, 22, 23, 24, 25, 26, 27, 28, 29, 30, 31, 32] rfl (by kernel_rfl) (by kernel_rfl) (by kernel_rfl) (by kernel_rfl) (fun _ _ _ h => h) (Or.inl ⟨by rfl, fun w' hSw => ?_⟩) ((Below.refl _ wa).drew) ?_
          · have e0 := clater c0 hSw; have e1 := clater c1 hSw; have e2 := clater c2 hSw; have e3 := clater c3 hSw; have e4 := clater c4 hSw; have e5 := clater c5 hSw
            clear c0 c1 c2 c3 c4 c5
            go_simp
          try simp only [Act.put, List.setIfInBounds_toArray, List.set_cons_zero, List.set_cons_succ]
          refine anyG_one (i := 2) (by kernel_rfl) ?_
          refine wpOp_lit rfl (by rfl) fun K' hK' => ?_
          go_simp
          refine (unhide HNE wa.drew).mono ?_
          rintro r w1 ⟨rfl, rfl⟩
          go_simp
          have hSw1 : Below wa.heap.size wa wa.drew := (Below.refl _ wa).drew
          refine unhide hK' _ _ ⟨fun _ => hSw1, ?_⟩
          clear hK' K'
          refine anyG_takel (i := 6) (v := (.bool true)) [7, 8, 9, 10, 11, 12, 13, 14, 15, 16, 17, 18, 19, 20, 21, 22, 23, 24, 25, 26, 27, 28, 29, 30, 31, 32] rfl (by kernel_rfl) (by kernel_rfl) (by kernel_rfl) (by kernel_rfl) (fun _ _ _ h => h) (Or.inl ⟨by rfl, fun w' hSw => ?_⟩) hSw1 ?_
          · have e0 := clater c0 hSw; have e1 := clater c1 hSw; have e2 := clater c2 hSw; have e3 := clater c3 hSw; have e4 := clater c4 hSw; have e5 := clater c5 hSw
            clear c0 c1 c2 c3 c4 c5
            go_simp
          try simp only [Act.put, List.setIfInBounds_toArray, List.set_cons_zero, List.set_cons_succ]
          refine anyG_takel (i := 7) (v := (.bool true)) [8, 9, 10, 11, 12, 13, 14, 15, 16, 17, 18, 19, 20, 21, 22, 23, 24, 25, 26, 27, 28, 29, 30, 31, 32] rfl (by kernel_rfl) (by kernel_rfl) (by kernel_rfl) (by kernel_rfl) (fun _ _ _ h => h) (Or.inl ⟨by rfl, fun w' hSw => ?_⟩) hSw1 ?_
          · have e0 := clater c0 hSw; have e1 := clater c1 hSw; have e2 := clater c2 hSw; have e3 := clater c3 hSw; have e4 := clater c4 hSw; have e5 := clater c5 hSw
            clear c0 c1 c2 c3 c4 c5
            go_simp
          try simp only [Act.put, List.setIfInBounds_toArray, List.set_cons_zero, List.set_cons_succ]
          refine anyG_takel (i := 8) (v := (.pointer (some ⟨w.heap.size, 0, none⟩))) [9, 10, 11, 12, 13, 14, 15, 16, 17, 18, 19, 20, 21, 22, 23, 24, 25, 26, 27, 28, 29, 30, 31, 32] rfl (by kernel_rfl) (by kernel_rfl) (by kernel_rfl) (by kernel_rfl) (fun _ _ _ h => h) (Or.inl ⟨by rfl, fun w' hSw => ?_⟩) hSw1 ?_
          · have e0 := clater c0 hSw; have e1 := clater c1 hSw; have e2 := clater c2 hSw; have e3 := clater c3 hSw; have e4 := clater c4 hSw; have e5 := clater c5 hSw
            clear c0 c1 c2 c3 c4 c5
            go_simp
          try simp only [Act.put, List.setIfInBounds_toArray, List.set_cons_zero, List.set_cons_succ]
          refine anyG_takel (i := 9) (v := (.int .i64 1)) [10, 11, 12, 13, 14, 15, 16, 17, 18, 19, 20, 21, 22, 23, 24, 25, 26, 27, 28, 29, 30, 31, 32] rfl (by kernel_rfl) (by kernel_rfl) (by kernel_rfl) (by kernel_rfl) (fun _ _ _ h => h) (Or.inl ⟨by rfl, fun w' hSw => ?_⟩) hSw1 ?_
          · have e0 := clater c0 hSw; have e1 := clater c1 hSw; have e2 := clater c2 hSw; have e3 := clater c3 hSw; have e4 := clater c4 hSw; have e5 := clater c5 hSw
            clear c0 c1 c2 c3 c4 c5
            go_simp
          try simp only [Act.put, List.setIfInBounds_toArray, List.set_cons_zero, List.set_cons_succ]
          refine anyG_takel (i := 10) (v := (.bool true)) [11, 12, 13, 14, 15, 16, 17, 18, 19, 20, 21, 22, 23, 24, 25, 26, 27, 28, 29, 30, 31, 32] rfl (by kernel_rfl) (by kernel_rfl) (by kernel_rfl) (by kernel_rfl) (fun _ _ _ h => h) (Or.inl ⟨by rfl, fun w' hSw => ?_⟩) hSw1 ?_
          · have e0 := clater c0 hSw; have e1 := clater c1 hSw; have e2 := clater c2 hSw; have e3 := clater c3 hSw; have e4 := clater c4 hSw; have e5 := clater c5 hSw
            clear c0 c1 c2 c3 c4 c5
            go_simp
          try simp only [Act.put, List.setIfInBounds_toArray, List.set_cons_zero, List.set_cons_succ]
          refine anyG_takel (i := 11) (v := (.bool true)) [12, 13, 14, 15, 16, 17, 18, 19, 20, 21, 22, 23, 24, 25, 26, 27, 28, 29, 30, 31, 32] rfl (by kernel_rfl) (by kernel_rfl) (by kernel_rfl) (by kernel_rfl) (fun _ _ _ h => h) (Or.inl ⟨by rfl, fun w' hSw => ?_⟩) hSw1 ?_
          · have e0 := clater c0 hSw; have e1 := clater c1 hSw; have e2 := clater c2 hSw; have e3 := clater c3 hSw; have e4 := clater c4 hSw; have e5 := clater c5 hSw
            clear c0 c1 c2 c3 c4 c5
            go_simp
          try simp only [Act.put, List.setIfInBounds_toArray, List.set_cons_zero, List.set_cons_succ]
          refine anyG_takel (i := 12) (v := (.pointer (some ⟨w.heap.size, 1, none⟩))) [13, 14, 15, 16, 17, 18, 19, 20, 21, 22, 23, 24, 25, 26, 27, 28, 29, 30, 31, 32] rfl (by kernel_rfl) (by kernel_rfl) (by kernel_rfl) (by kernel_rfl) (fun _ _ _ h => h) (Or.inl ⟨by rfl, fun w' hSw => ?_⟩) hSw1 ?_
          · have e0 := clater c0 hSw; have e1 := clater c1 hSw; have e2 := clater c2 hSw; have e3 := clater c3 hSw; have e4 := clater c4 hSw; have e5 := clater c5 hSw
            clear c0 c1 c2 c3 c4 c5
            go_simp
          try simp only [Act.put, List.setIfInBounds_toArray, List.set_cons_zero, List.set_cons_succ]
          refine anyG_takel (i := 13) (v := (.int .i64 n)) [14, 15, 16, 17, 18, 19, 20, 21, 22, 23, 24, 25, 26, 27, 28, 29, 30, 31, 32] rfl (by kernel_rfl) (by kernel_rfl) (by kernel_rfl) (by kernel_rfl) (fun _ _ _ h => h) (Or.inl ⟨by rfl, fun w' hSw => ?_⟩) hSw1 ?_
          · have e0 := clater c0 hSw; have e1 := clater c1 hSw; have e2 := clater c2 hSw; have e3 := clater c3 hSw; have e4 := clater c4 hSw; have e5 := clater c5 hSw
            clear c0 c1 c2 c3 c4 c5
            go_simp
          try simp only [Act.put, List.setIfInBounds_toArray, List.set_cons_zero, List.set_cons_succ]
          refine anyG_takel (i := 14) (v := (.bool true)) [15, 16, 17, 18, 19, 20, 21, 22, 23, 24, 25, 26, 27, 28, 29, 30, 31, 32] rfl (by kernel_rfl) (by kernel_rfl) (by kernel_rfl) (by kernel_rfl) (fun _ _ _ h => h) (Or.inl ⟨by rfl, fun w' hSw => ?_⟩) hSw1 ?_
          · have e0 := clater c0 hSw; have e1 := clater c1 hSw; have e2 := clater c2 hSw; have e3 := clater c3 hSw; have e4 := clater c4 hSw; have e5 := clater c5 hSw
            clear c0 c1 c2 c3 c4 c5
            go_simp
          try simp only [Act.put, List.setIfInBounds_toArray, List.set_cons_zero, List.set_cons_succ]
          refine anyG_takel (i := 15) (v := (.bool true)) [16, 17, 18, 19, 20, 21, 22, 23, 24, 25, 26, 27, 28, 29, 30, 31, 32] rfl (by kernel_rfl) (by kernel_rfl) (by kernel_rfl) (by kernel_rfl) (fun _ _ _ h => h) (Or.inl ⟨by rfl, fun w' hSw => ?_⟩) hSw1 ?_
          · have e0 := clater c0 hSw; have e1 := clater c1 hSw; have e2 := clater c2 hSw; have e3 := clater c3 hSw; have e4 := clater c4 hSw; have e5 := clater c5 hSw
            clear c0 c1 c2 c3 c4 c5
            go_simp
          try simp only [Act.put, List.setIfInBounds_toArray, List.set_cons_zero, List.set_cons_succ]
          refine anyG_takel (i := 16) (v := (.bool false)) [17, 18, 19, 20, 21, 22, 23, 24, 25, 26, 27, 28, 29, 30, 31, 32] rfl (by kernel_rfl) (by kernel_rfl) (by kernel_rfl) (by kernel_rfl) (fun _ _ _ h => h) (Or.inl ⟨by rfl, fun w' hSw => ?_⟩) hSw1 ?_
          · have e0 := clater c0 hSw; have e1 := clater c1 hSw; have e2 := clater c2 hSw; have e3 := clater c3 hSw; have e4 := clater c4 hSw; have e5 := clater c5 hSw
            clear c0 c1 c2 c3 c4 c5
            go_simp
          try simp only [Act.put, List.setIfInBounds_toArray, List.set_cons_zero, List.set_cons_succ]
          refine anyG_takel (i := 17) (v := (.bool false)) [18, 19, 20, 21, 22, 23, 24, 25, 26, 27, 28, 29, 30, 31, 32] rfl (by kernel_rfl) (by kernel_rfl) (by kernel_rfl) (by kernel_rfl) (fun _ _ _ h => h) (Or.inl ⟨by rfl, fun w' hSw => ?_⟩) hSw1 ?_
          · have e0 := clater c0 hSw; have e1 := clater c1 hSw; have e2 := clater c2 hSw; have e3 := clater c3 hSw; have e4 := clater c4 hSw; have e5 := clater c5 hSw
            clear c0 c1 c2 c3 c4 c5
            go_simp
          try simp only [Act.put, List.setIfInBounds_toArray, List.set_cons_zero, List.set_cons_succ]
          refine anyG_takel (i := 18) (v := (.bool false)) [19, 20, 21, 22, 23, 24, 25, 26, 27, 28, 29, 30, 31, 32] rfl (by kernel_rfl) (by kernel_rfl) (by kernel_rfl) (by kernel_rfl) (fun _ _ _ h => h) (Or.inl ⟨by rfl, fun w' hSw => ?_⟩) hSw1 ?_
          · have e0 := clater c0 hSw; have e1 := clater c1 hSw; have e2 := clater c2 hSw; have e3 := clater c3 hSw; have e4 := clater c4 hSw; have e5 := clater c5 hSw
            clear c0 c1 c2 c3 c4 c5
            go_simp
          try simp only [Act.put, List.setIfInBounds_toArray, List.set_cons_zero, List.set_cons_succ]
          refine anyG_takel (i := 19) (v := undef) [20, 21, 22, 23, 24, 25, 26, 27, 28, 29, 30, 31, 32] rfl (by kernel_rfl) (by kernel_rfl) (by kernel_rfl) (by kernel_rfl) (fun _ _ _ h => h) (Or.inr ⟨by rfl, rfl⟩) hSw1 ?_
          try simp only [Act.put, List.setIfInBounds_toArray, List.set_cons_zero, List.set_cons_succ]
          refine anyG_takel (i := 20) (v := undef) [21, 22, 23, 24, 25, 26, 27, 28, 29, 30, 31, 32] rfl (by kernel_rfl) (by kernel_rfl) (by kernel_rfl) (by kernel_rfl) (fun _ _ _ h => h) (Or.inr ⟨by rfl, rfl⟩) hSw1 ?_
          try simp only [Act.put, List.setIfInBounds_toArray, List.set_cons_zero, List.set_cons_succ]
          refine anyG_takel (i := 21) (v := undef) [22, 23, 24, 25, 26, 27, 28, 29, 30, 31, 32] rfl (by kernel_rfl) (by kernel_rfl) (by kernel_rfl) (by kernel_rfl) (fun _ _ _ h => h) (Or.inr ⟨by rfl, rfl⟩) hSw1 ?_
          try simp only [Act.put, List.setIfInBounds_toArray, List.set_cons_zero, List.set_cons_succ]
          refine anyG_takel (i := 22) (v := undef) [23, 24, 25, 26, 27, 28, 29, 30, 31, 32] rfl (by kernel_rfl) (by kernel_rfl) (by kernel_rfl) (by kernel_rfl) (fun _ _ _ h => h) (Or.inr ⟨by rfl, rfl⟩) hSw1 ?_
          try simp only [Act.put, List.setIfInBounds_toArray, List.set_cons_zero, List.set_cons_succ]
          refine anyG_takel (i := 23) (v := undef) [24, 25, 26, 27, 28, 29, 30, 31, 32] rfl (by kernel_rfl) (by kernel_rfl) (by kernel_rfl) (by kernel_rfl) (fun _ _ _ h => h) (Or.inr ⟨by rfl, rfl⟩) hSw1 ?_
          try simp only [Act.put, List.setIfInBounds_toArray, List.set_cons_zero, List.set_cons_succ]
          refine anyG_takel (i := 24) (v := undef) [25, 26, 27, 28, 29, 30, 31, 32] rfl (by kernel_rfl) (by kernel_rfl) (by kernel_rfl) (by kernel_rfl) (fun _ _ _ h => h) (Or.inr ⟨by rfl, rfl⟩) hSw1 ?_
          try simp only [Act.put, List.setIfInBounds_toArray, List.set_cons_zero, List.set_cons_succ]
          refine anyG_one (i := 25) (by kernel_rfl) ?_
          refine wpOp_noR rfl (by rfl) ⟨fun _ => hSw1, ?_⟩
          try simp only [Act.put, List.setIfInBounds_toArray, List.set_cons_zero, List.set_cons_succ]
          refine anyG_takel (i := 26) (v := undef) [27, 28, 29, 30, 31, 32] rfl (by kernel_rfl) (by kernel_rfl) (by kernel_rfl) (by kernel_rfl) (fun _ _ _ h => h) (Or.inr ⟨by rfl, rfl⟩) hSw1 ?_
          try simp only [Act.put, List.setIfInBounds_toArray, List.set_cons_zero, List.set_cons_succ]
          refine anyG_takel (i := 27) (v := undef) [28, 29, 30, 31, 32] rfl (by kernel_rfl) (by kernel_rfl) (by kernel_rfl) (by kernel_rfl) (fun _ _ _ h => h) (Or.inr ⟨by rfl, rfl⟩) hSw1 ?_
          try simp only [Act.put, List.setIfInBounds_toArray, List.set_cons_zero, List.set_cons_succ]
          refine anyG_takel (i := 28) (v := undef) [29, 30, 31, 32] rfl (by kernel_rfl) (by kernel_rfl) (by kernel_rfl) (by kernel_rfl) (fun _ _ _ h => h) (Or.inr ⟨by rfl, rfl⟩) hSw1 ?_
          try simp only [Act.put, List.setIfInBounds_toArray, List.set_cons_zero, List.set_cons_succ]
          refine anyG_takel (i := 29) (v := undef) [30, 31, 32] rfl (by kernel_rfl) (by kernel_rfl) (by kernel_rfl) (by kernel_rfl) (fun _ _ _ h => h) (Or.inr ⟨by rfl, rfl⟩) hSw1 ?_
          try simp only [Act.put, List.setIfInBounds_toArray, List.set_cons_zero, List.set_cons_succ]
          refine anyG_takel (i := 30) (v := undef) [31, 32] rfl (by kernel_rfl) (by kernel_rfl) (by kernel_rfl) (by kernel_rfl) (fun _ _ _ h => h) (Or.inr ⟨by rfl, rfl⟩) hSw1 ?_
          try simp only [Act.put, List.setIfInBounds_toArray, List.set_cons_zero, List.set_cons_succ]
          refine anyG_takel (i := 31) (v := (.bool false)) [32] rfl (by kernel_rfl) (by kernel_rfl) (by kernel_rfl) (by kernel_rfl) (fun _ _ _ h => h) (Or.inl ⟨by rfl, fun w' hSw => ?_⟩) hSw1 ?_
          · have e0 := clater c0 hSw; have e1 := clater c1 hSw; have e2 := clater c2 hSw; have e3 := clater c3 hSw; have e4 := clater c4 hSw; have e5 := clater c5 hSw
            clear c0 c1 c2 c3 c4 c5
            go_simp
          try simp only [Act.put, List.setIfInBounds_toArray, List.set_cons_zero, List.set_cons_succ]
          refine anyG_one (i := 32) (by kernel_rfl) ?_
          refine wpOp_lit rfl (by rfl) fun K' hK' => ?_
          go_simp
          refine unhide hK' _ _ ⟨fun hh => absurd hh (by decide), ?_⟩
          clear hK' K'
          refine anyG_done (by kernel_rfl) ?_ _
          refine NoPanic.normal ?_
          clear c0 c1 c2 c3 c4 c5
          go_wp2
          go_meet
          exact ⟨(by rw [unhide HE]), hSw1⟩
      · by_cases h2 : op = 2
        · subst h2
          by_cases hs : cv.s.size ≤ 1000
          · have hs' : ¬ (1000 : Int) < (cv.s.size : Int) := by omega
            have HE : Hid (soundE e = true) := by show _ = _; rw [← unhide HRR, unhide HX]; simp [*]
            clear HX HRR
            refine wp_region_noPanic ?_
            refine wp_region_G (S := fun w' : World => Below wa.heap.size wa w') (k := 32) (by kernel_rfl) ?_
            refine anyG_takel (i := 0) (v := (.pointer (some ⟨w.heap.size, 0, none⟩))) [1, 2, 6, 7, 8, 9, 10, 11, 12, 13, 14, 15, 16, 17, 18, 19, 20, 21, 22, 23, 24, 25, 26, 27, 28, 29, 30, 31, 32] rfl (by kernel_rfl) (by kernel_rfl) (by kernel_rfl) (by kernel_rfl) (fun _ _ _ h => h) (Or.inl ⟨by rfl, fun w' hSw => ?_⟩) ((Below.refl _ wa).drew) ?_
            · have e0 := clater c0 hSw; have e1 := clater c1 hSw; have e2 := clater c2 hSw; have e3 := clater c3 hSw; have e4 := clater c4 hSw; have e5 := clater c5 hSw
              clear c0 c1 c2 c3 c4 c5
              go_simp
            try simp only [Act.put, List.setIfInBounds_toArray, List.set_cons_zero, List.set_cons_succ]
            refine anyG_takel (i := 1) (v := (.int .i64 2)) [2, 6, 7, 8, 9, 10, 11, 12, 13, 14, 15, 16, 17, 18, 19, 20, 21, 22, 23, 24, 25, 26, 27, 28, 29, 30, 31, 32] rfl (by kernel_rfl) (by kernel_rfl) (by kernel_rfl) (by kernel_rfl) (fun _ _ _ h => h) (Or.inl ⟨by rfl, fun w' hSw => ?_⟩) ((Below.refl _ wa).drew) ?_
            · have e0 := clater c0 hSw; have e1 := clater c1 hSw; have e2 := clater c2 hSw; have e3 := clater c3 hSw; have e4 := clater c4 hSw; have e5 := clater c5 hSw
              clear c0 c1 c2 c3 c4 c5
              go_simp
            try simp only [Act.put, List.setIfInBounds_toArray, List.set_cons_zero, List.set_cons_succ]
            refine anyG_takel (i := 3) (v := (.pointer (some ⟨w.heap.size, 5, none⟩))) [4, 5, 6, 7, 8, 9, 10, 11, 12, 13, 14, 15, 16, 17, 18, 19, 20, 21, 22, 23, 24, 25, 26, 27, 28, 29, 30, 31, 32] rfl (by kernel_rfl) (by kernel_rfl) (by kernel_rfl) (by kernel_rfl) (fun _ _ _ h => h) (Or.inl ⟨by rfl, fun w' hSw => ?_⟩) ((Below.refl _ wa).drew) ?_
            · have e0 := clater c0 hSw; have e1 := clater c1 hSw; have e2 := clater c2 hSw; have e3 := clater c3 hSw; have e4 := clater c4 hSw; have e5 := clater c5 hSw
              clear c0 c1 c2 c3 c4 c5
              go_simp
            try simp only [Act.put, List.setIfInBounds_toArray, List.set_cons_zero, List.set_cons_succ]
            refine anyG_takel (i := 4) (v := (.slice a m c)) [5, 6, 7, 8, 9, 10, 11, 12, 13, 14, 15, 16, 17, 18, 19, 20, 21, 22, 23, 24, 25, 26, 27, 28, 29, 30, 31, 32] rfl (by kernel_rfl) (by kernel_rfl) (by kernel_rfl) (by kernel_rfl) (fun _ _ _ h => h) (Or.inl ⟨by rfl, fun w' hSw => ?_⟩) ((Below.refl _ wa).drew) ?_
            · have e0 := clater c0 hSw; have e1 := clater c1 hSw; have e2 := clater c2 hSw; have e3 := clater c3 hSw; have e4 := clater c4 hSw; have e5 := clater c5 hSw
              clear c0 c1 c2 c3 c4 c5
              go_simp
            try simp only [Act.put, List.setIfInBounds_toArray, List.set_cons_zero, List.set_cons_succ]
            refine anyG_takel (i := 5) (v := (.int .i64 (m : Int))) [6, 7, 8, 9, 10, 11, 12, 13, 14, 15, 16, 17, 18, 19, 20, 21, 22, 23, 24, 25, 26, 27, 28, 29, 30, 31, 32] rfl (by kernel_rfl) (by kernel_rfl) (by kernel_rfl) (by kernel_rfl) (fun _ _ _ h => h) (Or.inl ⟨by rfl, fun w' hSw => ?_⟩) ((Below.refl _ wa).drew) ?_
            · have e0 := clater c0 hSw; have e1 := clater c1 hSw; have e2 := clater c2 hSw; have e3 := clater c3 hSw; have e4 := clater c4 hSw; have e5 := clater c5 hSw
              clear c0 c1 c2 c3 c4 c5
              go_simp
            try simp only [Act.put, List.setIfInBounds_toArray, List.set_cons_zero, List.set_cons_succ]
            refine anyG_one (i := 2) (by kernel_rfl) ?_
            refine wpOp_lit rfl (by rfl) fun K' hK' => ?_
            go_simp
            refine (unhide HNE wa.drew).mono ?_
            rintro r w1 ⟨rfl, rfl⟩
            go_simp
            have hSw1 : Below wa.heap.size wa wa.drew := (Below.refl _ wa).drew
            refine unhide hK' _ _ ⟨fun _ => hSw1, ?_⟩
            clear hK' K'
            refine anyG_takel (i := 6) (v := (.bool true)) [7, 8, 9, 10, 11, 12, 13, 14, 15, 16, 17, 18, 19, 20, 21, 22, 23, 24, 25, 26, 27, 28, 29, 30, 31, 32] rfl (by kernel_rfl) (by kernel_rfl) (by kernel_rfl) (by kernel_rfl) (fun _ _ _ h => h) (Or.inl ⟨by rfl, fun w' hSw => ?_⟩) hSw1 ?_
            · have e0 := clater c0 hSw; have e1 := clater c1 hSw; have e2 := clater c2 hSw; have e3 := clater c3 hSw; have e4 := clater c4 hSw; have e5 := clater c5 hSw
              clear c0 c1 c2 c3 c4 c5
              go_simp
            try simp only [Act.put, List.setIfInBounds_toArray, List.set_cons_zero, List.set_cons_succ]
            refine anyG_takel (i := 7) (v := (.bool true)) [8, 9, 10, 11, 12, 13, 14, 15, 16, 17, 18, 19, 20, 21, 22, 23, 24, 25, 26, 27, 28, 29, 30, 31, 32] rfl (by kernel_rfl) (by kernel_rfl) (by kernel_rfl) (by kernel_rfl) (fun _ _ _ h => h) (Or.inl ⟨by rfl, fun w' hSw => ?_⟩) hSw1 ?_
            · have e0 := clater c0 hSw; have e1 := clater c1 hSw; have e2 := clater c2 hSw; have e3 := clater c3 hSw; have e4 := clater c4 hSw; have e5 := clater c5 hSw
              clear c0 c1 c2 c3 c4 c5
              go_simp
            try simp only [Act.put, List.setIfInBounds_toArray, List.set_cons_zero, List.set_cons_succ]
            refine anyG_takel (i := 8) (v := (.pointer (some ⟨w.heap.size, 0, none⟩))) [9, 10, 11, 12, 13, 14, 15, 16, 17, 18, 19, 20, 21, 22, 23, 24, 25, 26, 27, 28, 29, 30, 31, 32] rfl (by kernel_rfl) (by kernel_rfl) (by kernel_rfl) (by kernel_rfl) (fun _ _ _ h => h) (Or.inl ⟨by rfl, fun w' hSw => ?_⟩) hSw1 ?_
            · have e0 := clater c0 hSw; have e1 := clater c1 hSw; have e2 := clater c2 hSw; have e3 := clater c3 hSw; have e4 := clater c4 hSw; have e5 := clater c5 hSw
              clear c0 c1 c2 c3 c4 c5
              go_simp
            try simp only [Act.put, List.setIfInBounds_toArray, List.set_cons_zero, List.set_cons_succ]
            refine anyG_takel (i := 9) (v := (.int .i64 2)) [10, 11, 12, 13, 14, 15, 16, 17, 18, 19, 20, 21, 22, 23, 24, 25, 26, 27, 28, 29, 30, 31, 32] rfl (by kernel_rfl) (by kernel_rfl) (by kernel_rfl) (by kernel_rfl) (fun _ _ _ h => h) (Or.inl ⟨by rfl, fun w' hSw => ?_⟩) hSw1 ?_
            · have e0 := clater c0 hSw; have e1 := clater c1 hSw; have e2 := clater c2 hSw; have e3 := clater c3 hSw; have e4 := clater c4 hSw; have e5 := clater c5 hSw
              clear c0 c1 c2 c3 c4 c5
              go_simp
            try simp only [Act.put, List.setIfInBounds_toArray, List.set_cons_zero, List.set_cons_succ]
            refine anyG_takel (i := 10) (v := (.bool false)) [11, 12, 13, 14, 15, 16, 17, 18, 19, 20, 21, 22, 23, 24, 25, 26, 27, 28, 29, 30, 31, 32] rfl (by kernel_rfl) (by kernel_rfl) (by kernel_rfl) (by kernel_rfl) (fun _ _ _ h => h) (Or.inl ⟨by rfl, fun w' hSw => ?_⟩) hSw1 ?_
            · have e0 := clater c0 hSw; have e1 := clater c1 hSw; have e2 := clater c2 hSw; have e3 := clater c3 hSw; have e4 := clater c4 hSw; have e5 := clater c5 hSw
              clear c0 c1 c2 c3 c4 c5
              go_simp
            try simp only [Act.put, List.setIfInBounds_toArray, List.set_cons_zero, List.set_cons_succ]
            refine anyG_takel (i := 11) (v := (.bool false)) [12, 13, 14, 15, 16, 17, 18, 19, 20, 21, 22, 23, 24, 25, 26, 27, 28, 29, 30, 31, 32] rfl (by kernel_rfl) (by kernel_rfl) (by kernel_rfl) (by kernel_rfl) (fun _ _ _ h => h) (Or.inl ⟨by rfl, fun w' hSw => ?_⟩) hSw1 ?_
            · have e0 := clater c0 hSw; have e1 := clater c1 hSw; have e2 := clater c2 hSw; have e3 := clater c3 hSw; have e4 := clater c4 hSw; have e5 := clater c5 hSw
              clear c0 c1 c2 c3 c4 c5
              go_simp
            try simp only [Act.put, List.setIfInBounds_toArray, List.set_cons_zero, List.set_cons_succ]
            refine anyG_takel (i := 12) (v := undef) [13, 14, 15, 16, 17, 18, 19, 20, 21, 22, 23, 24, 25, 26, 27, 28, 29, 30, 31, 32] rfl (by kernel_rfl) (by kernel_rfl) (by kernel_rfl) (by kernel_rfl) (fun _ _ _ h => h) (Or.inr ⟨by rfl, rfl⟩) hSw1 ?_
            try simp only [Act.put, List.setIfInBounds_toArray, List.set_cons_zero, List.set_cons_succ]
            refine anyG_takel (i := 13) (v := undef) [14, 15, 16, 17, 18, 19, 20, 21, 22, 23, 24, 25, 26, 27, 28, 29, 30, 31, 32] rfl (by kernel_rfl) (by kernel_rfl) (by kernel_rfl) (by kernel_rfl) (fun _ _ _ h => h) (Or.inr ⟨by rfl, rfl⟩) hSw1 ?_
            try simp only [Act.put, List.setIfInBounds_toArray, List.set_cons_zero, List.set_cons_succ]
            refine anyG_takel (i := 14) (v := undef) [15, 16, 17, 18, 19, 20, 21, 22, 23, 24, 25, 26, 27, 28, 29, 30, 31, 32] rfl (by kernel_rfl) (by kernel_rfl) (by kernel_rfl) (by kernel_rfl) (fun _ _ _ h => h) (Or.inr ⟨by rfl, rfl⟩) hSw1 ?_
            try simp only [Act.put, List.setIfInBounds_toArray, List.set_cons_zero, List.set_cons_succ]
            refine anyG_takel (i := 15) (v := (.bool false)) [16, 17, 18, 19, 20, 21, 22, 23, 24, 25, 26, 27, 28, 29, 30, 31, 32] rfl (by kernel_rfl) (by kernel_rfl) (by kernel_rfl) (by kernel_rfl) (fun _ _ _ h => h) (Or.inl ⟨by rfl, fun w' hSw => ?_⟩) hSw1 ?_
            · have e0 := clater c0 hSw; have e1 := clater c1 hSw; have e2 := clater c2 hSw; have e3 := clater c3 hSw; have e4 := clater c4 hSw; have e5 := clater c5 hSw
              clear c0 c1 c2 c3 c4 c5
              go_simp
            try simp only [Act.put, List.setIfInBounds_toArray, List.set_cons_zero, List.set_cons_succ]
            refine anyG_takel (i := 16) (v := (.bool true)) [17, 18, 19, 20, 21, 22, 23, 24, 25, 26, 27, 28, 29, 30, 31, 32] rfl (by kernel_rfl) (by kernel_rfl) (by kernel_rfl) (by kernel_rfl) (fun _ _ _ h => h) (Or.inl ⟨by rfl, fun w' hSw => ?_⟩) hSw1 ?_
            · have e0 := clater c0 hSw; have e1 := clater c1 hSw; have e2 := clater c2 hSw; have e3 := clater c3 hSw; have e4 := clater c4 hSw; have e5 := clater c5 hSw
              clear c0 c1 c2 c3 c4 c5
              go_simp
            try simp only [Act.put, List.setIfInBounds_toArray, List.set_cons_zero, List.set_cons_succ]
            refine anyG_takel (i := 17) (v := (.bool true)) [18, 19, 20, 21, 22, 23, 24, 25, 26, 27, 28, 29, 30, 31, 32] rfl (by kernel_rfl) (by kernel_rfl) (by kernel_rfl) (by kernel_rfl) (fun _ _ _ h => h) (Or.inl ⟨by rfl, fun w' hSw => ?_⟩) hSw1 ?_
            · have e0 := clater c0 hSw; have e1 := clater c1 hSw; have e2 := clater c2 hSw; have e3 := clater c3 hSw; have e4 := clater c4 hSw; have e5 := clater c5 hSw
              clear c0 c1 c2 c3 c4 c5
              go_simp
            try simp only [Act.put, List.setIfInBounds_toArray, List.set_cons_zero, List.set_cons_succ]
            refine anyG_takel (i := 18) (v := (.bool true)) [19, 20, 21, 22, 23, 24, 25, 26, 27, 28, 29, 30, 31, 32] rfl (by kernel_rfl) (by kernel_rfl) (by kernel_rfl) (by kernel_rfl) (fun _ _ _ h => h) (Or.inl ⟨by rfl, fun w' hSw => ?_⟩) hSw1 ?_
            · have e0 := clater c0 hSw; have e1 := clater c1 hSw; have e2 := clater c2 hSw; have e3 := clater c3 hSw; have e4 := clater c4 hSw; have e5 := clater c5 hSw
              clear c0 c1 c2 c3 c4 c5
              go_simp
            try simp only [Act.put, List.setIfInBounds_toArray, List.set_cons_zero, List.set_cons_succ]
            refine anyG_takel (i := 19) (v := (.pointer (some ⟨w.heap.size, 0, none⟩))) [20, 21, 22, 23, 24, 25, 26, 27, 28, 29, 30, 31, 32] rfl (by kernel_rfl) (by kernel_rfl) (by kernel_rfl) (by kernel_rfl) (fun _ _ _ h => h) (Or.inl ⟨by rfl, fun w' hSw => ?_⟩) hSw1 ?_
            · have e0 := clater c0 hSw; have e1 := clater c1 hSw; have e2 := clater c2 hSw; have e3 := clater c3 hSw; have e4 := clater c4 hSw; have e5 := clater c5 hSw
              clear c0 c1 c2 c3 c4 c5
              go_simp
            try simp only [Act.put, List.setIfInBounds_toArray, List.set_cons_zero, List.set_cons_succ]
            refine anyG_takel (i := 20) (v := (.int .i64 2)) [21, 22, 23, 24, 25, 26, 27, 28, 29, 30, 31, 32] rfl (by kernel_rfl) (by kernel_rfl) (by kernel_rfl) (by kernel_rfl) (fun _ _ _ h => h) (Or.inl ⟨by rfl, fun w' hSw => ?_⟩) hSw1 ?_
            · have e0 := clater c0 hSw; have e1 := clater c1 hSw; have e2 := clater c2 hSw; have e3 := clater c3 hSw; have e4 := clater c4 hSw; have e5 := clater c5 hSw
              clear c0 c1 c2 c3 c4 c5
              go_simp
            try simp only [Act.put, List.setIfInBounds_toArray, List.set_cons_zero, List.set_cons_succ]
            refine anyG_takel (i := 21) (v := (.bool true)) [22, 23, 24, 25, 26, 27, 28, 29, 30, 31, 32] rfl (by kernel_rfl) (by kernel_rfl) (by kernel_rfl) (by kernel_rfl) (fun _ _ _ h => h) (Or.inl ⟨by rfl, fun w' hSw => ?_⟩) hSw1 ?_
            · have e0 := clater c0 hSw; have e1 := clater c1 hSw; have e2 := clater c2 hSw; have e3 := clater c3 hSw; have e4 := clater c4 hSw; have e5 := clater c5 hSw
              clear c0 c1 c2 c3 c4 c5
              go_simp
            try simp only [Act.put, List.setIfInBounds_toArray, List.set_cons_zero, List.set_cons_succ]
            refine anyG_takel (i := 22) (v := (.bool true)) [23, 24, 25, 26, 27, 28, 29, 30, 31, 32] rfl (by kernel_rfl) (by kernel_rfl) (by kernel_rfl) (by kernel_rfl) (fun _ _ _ h => h) (Or.inl ⟨by rfl, fun w' hSw => ?_⟩) hSw1 ?_
            · have e0 := clater c0 hSw; have e1 := clater c1 hSw; have e2 := clater c2 hSw; have e3 := clater c3 hSw; have e4 := clater c4 hSw; have e5 := clater c5 hSw
              clear c0 c1 c2 c3 c4 c5
              go_simp
            try simp only [Act.put, List.setIfInBounds_toArray, List.set_cons_zero, List.set_cons_succ]
            refine anyG_takel (i := 23) (v := (.pointer (some ⟨w.heap.size, 2, none⟩))) [24, 25, 26, 27, 28, 29, 30, 31, 32] rfl (by kernel_rfl) (by kernel_rfl) (by kernel_rfl) (by kernel_rfl) (fun _ _ _ h => h) (Or.inl ⟨by rfl, fun w' hSw => ?_⟩) hSw1 ?_
            · have e0 := clater c0 hSw; have e1 := clater c1 hSw; have e2 := clater c2 hSw; have e3 := clater c3 hSw; have e4 := clater c4 hSw; have e5 := clater c5 hSw
              clear c0 c1 c2 c3 c4 c5
              go_simp
            try simp only [Act.put, List.setIfInBounds_toArray, List.set_cons_zero, List.set_cons_succ]
            refine anyG_takel (i := 24) (v := (.agg #[.int .i64 vk, .int .i64 vn, .string vs])) [25, 26, 27, 28, 29, 30, 31, 32] rfl (by kernel_rfl) (by kernel_rfl) (by kernel_rfl) (by kernel_rfl) (fun _ _ _ h => h) (Or.inl ⟨by rfl, fun w' hSw => ?_⟩) hSw1 ?_
            · have e0 := clater c0 hSw; have e1 := clater c1 hSw; have e2 := clater c2 hSw; have e3 := clater c3 hSw; have e4 := clater c4 hSw; have e5 := clater c5 hSw
              clear c0 c1 c2 c3 c4 c5
              go_simp
            try simp only [Act.put, List.setIfInBounds_toArray, List.set_cons_zero, List.set_cons_succ]
            refine anyG_one (i := 25) (by kernel_rfl) ?_
            refine wpOp_lit rfl (by rfl) fun K' hK' => ?_
            go_simp
            refine (unhide HCL _).mono ?_
            rintro r w2 ⟨rfl, hb2⟩
            go_simp
            have hSw2 : Below wa.heap.size wa w2 := below_step hSw1 hb2
            refine unhide hK' _ _ ⟨fun _ => hSw2, ?_⟩
            clear hK' K'
            rw [Val.open_]
            refine anyG_takel (i := 26) (v := (.string cv.s)) [27, 28, 29, 30, 31, 32] rfl (by kernel_rfl) (by kernel_rfl) (by kernel_rfl) (by kernel_rfl) (fun _ _ _ h => h) (Or.inl ⟨by rfl, fun w' hSw => ?_⟩) hSw2 ?_
            · have e0 := clater c0 hSw; have e1 := clater c1 hSw; have e2 := clater c2 hSw; have e3 := clater c3 hSw; have e4 := clater c4 hSw; have e5 := clater c5 hSw
              clear c0 c1 c2 c3 c4 c5
              go_simp
            try simp only [Act.put, List.setIfInBounds_toArray, List.set_cons_zero, List.set_cons_succ]
            refine anyG_takel (i := 27) (v := (.int .i64 (cv.s.size : Int))) [28, 29, 30, 31, 32] rfl (by kernel_rfl) (by kernel_rfl) (by kernel_rfl) (by kernel_rfl) (fun _ _ _ h => h) (Or.inl ⟨by rfl, fun w' hSw => ?_⟩) hSw2 ?_
            · have e0 := clater c0 hSw; have e1 := clater c1 hSw; have e2 := clater c2 hSw; have e3 := clater c3 hSw; have e4 := clater c4 hSw; have e5 := clater c5 hSw
              clear c0 c1 c2 c3 c4 c5
              go_simp
            try simp only [Act.put, List.setIfInBounds_toArray, List.set_cons_zero, List.set_cons_succ]
            refine anyG_takel (i := 28) (v := (.bool false)) [29, 30, 31, 32] rfl (by kernel_rfl) (by kernel_rfl) (by kernel_rfl) (by kernel_rfl) (fun _ _ _ h => h) (Or.inl ⟨by rfl, fun w' hSw => ?_⟩) hSw2 ?_
            · have e0 := clater c0 hSw; have e1 := clater c1 hSw; have e2 := clater c2 hSw; have e3 := clater c3 hSw; have e4 := clater c4 hSw; have e5 := clater c5 hSw
              clear c0 c1 c2 c3 c4 c5
              go_simp
            try simp only [Act.put, List.setIfInBounds_toArray, List.set_cons_zero, List.set_cons_succ]
            refine anyG_takel (i := 29) (v := (.bool false)) [30, 31, 32] rfl (by kernel_rfl) (by kernel_rfl) (by kernel_rfl) (by kernel_rfl) (fun _ _ _ h => h) (Or.inl ⟨by rfl, fun w' hSw => ?_⟩) hSw2 ?_
            · have e0 := clater c0 hSw; have e1 := clater c1 hSw; have e2 := clater c2 hSw; have e3 := clater c3 hSw; have e4 := clater c4 hSw; have e5 := clater c5 hSw
              clear c0 c1 c2 c3 c4 c5
              go_simp
            try simp only [Act.put, List.setIfInBounds_toArray, List.set_cons_zero, List.set_cons_succ]
            refine anyG_takel (i := 30) (v := (.bool true)) [31, 32] rfl (by kernel_rfl) (by kernel_rfl) (by kernel_rfl) (by kernel_rfl) (fun _ _ _ h => h) (Or.inl ⟨by rfl, fun w' hSw => ?_⟩) hSw2 ?_
            · have e0 := clater c0 hSw; have e1 := clater c1 hSw; have e2 := clater c2 hSw; have e3 := clater c3 hSw; have e4 := clater c4 hSw; have e5 := clater c5 hSw
              clear c0 c1 c2 c3 c4 c5
              go_simp
            try simp only [Act.put, List.setIfInBounds_toArray, List.set_cons_zero, List.set_cons_succ]
            refine anyG_takel (i := 31) (v := (.bool true)) [32] rfl (by kernel_rfl) (by kernel_rfl) (by kernel_rfl) (by kernel_rfl) (fun _ _ _ h => h) (Or.inl ⟨by rfl, fun w' hSw => ?_⟩) hSw2 ?_
            · have e0 := clater c0 hSw; have e1 := clater c1 hSw; have e2 := clater c2 hSw; have e3 := clater c3 hSw; have e4 := clater c4 hSw; have e5 := clater c5 hSw
              clear c0 c1 c2 c3 c4 c5
              go_simp
            try simp only [Act.put, List.setIfInBounds_toArray, List.set_cons_zero, List.set_cons_succ]
            refine anyG_one (i := 32) (by kernel_rfl) ?_
            refine wpOp_lit rfl (by rfl) fun K' hK' => ?_
            go_simp
            refine unhide hK' _ _ ⟨fun hh => absurd hh (by decide), ?_⟩
            clear hK' K'
            refine anyG_done (by kernel_rfl) ?_ _
            refine NoPanic.normal ?_
            clear c0 c1 c2 c3 c4 c5
            go_wp2
            go_meet
            exact ⟨(by rw [unhide HE]), hSw2⟩
          · have hs' : (1000 : Int) < (cv.s.size : Int) := by omega
            have HE : Hid (soundE e = false) := by show _ = _; rw [← unhide HRR, unhide HX]; simp [*]
            clear HX HRR
            refine wp_region_noPanic ?_
            refine wp_region_G (S := fun w' : World => Below wa.heap.size wa w') (k := 32) (by kernel_rfl) ?_
            refine anyG_takel (i := 0) (v := (.pointer (some ⟨w.heap.size, 0, none⟩))) [1, 2, 6, 7, 8, 9, 10, 11, 12, 13, 14, 15, 16, 17, 18, 19, 20, 21, 22, 23, 24, 25, 26, 27, 28, 29, 30, 31, 32] rfl (by kernel_rfl) (by kernel_rfl) (by kernel_rfl) (by kernel_rfl) (fun _ _ _ h => h) (Or.inl ⟨by rfl, fun w' hSw => ?_⟩) ((Below.refl _ wa).drew) ?_
            · have e0 := clater c0 hSw; have e1 := clater c1 hSw; have e2 := clater c2 hSw; have e3 := clater c3 hSw; have e4 := clater c4 hSw; have e5 := clater c5 hSw
              clear c0 c1 c2 c3 c4 c5
              go_simp
            try simp only [Act.put, List.setIfInBounds_toArray, List.set_cons_zero, List.set_cons_succ]
            refine anyG_takel (i := 1) (v := (.int .i64 2)) [2, 6, 7, 8, 9, 10, 11, 12, 13, 14, 15, 16, 17, 18, 19, 20, 21, 22, 23, 24, 25, 26, 27, 28, 29, 30, 31, 32] rfl (by kernel_rfl) (by kernel_rfl) (by kernel_rfl) (by kernel_rfl) (fun _ _ _ h => h) (Or.inl ⟨by rfl, fun w' hSw => ?_⟩) ((Below.refl _ wa).drew) ?_
            · have e0 := clater c0 hSw; have e1 := clater c1 hSw; have e2 := clater c2 hSw; have e3 := clater c3 hSw; have e4 := clater c4 hSw; have e5 := clater c5 hSw
              clear c0 c1 c2 c3 c4 c5
              go_simp
            try simp only [Act.put, List.setIfInBounds_toArray, List.set_cons_zero, List.set_cons_succ]
            refine anyG_takel (i := 3) (v := (.pointer (some ⟨w.heap.size, 5, none⟩))) [4, 5, 6, 7, 8, 9, 10, 11, 12, 13, 14, 15, 16, 17, 18, 19, 20, 21, 22, 23, 24, 25, 26, 27, 28, 29, 30, 31, 32] rfl (by kernel_rfl) (by kernel_rfl) (by kernel_rfl) (by kernel_rfl) (fun _ _ _ h => h) (Or.inl ⟨by rfl, fun w' hSw => ?_⟩) ((Below.refl _ wa).drew) ?_
            · have e0 := clater c0 hSw; have e1 := clater c1 hSw; have e2 := clater c2 hSw; have e3 := clater c3 hSw; have e4 := clater c4 hSw; have e5 := clater c5 hSw
              clear c0 c1 c2 c3 c4 c5
              go_simp
            try simp only [Act.put, List.setIfInBounds_toArray, List.set_cons_zero, List.set_cons_succ]
            refine anyG_takel (i := 4) (v := (.slice a m c)) [5, 6, 7, 8, 9, 10, 11, 12, 13, 14, 15, 16, 17, 18, 19, 20, 21, 22, 23, 24, 25, 26, 27, 28, 29, 30, 31, 32] rfl (by kernel_rfl) (by kernel_rfl) (by kernel_rfl) (by kernel_rfl) (fun _ _ _ h => h) (Or.inl ⟨by rfl, fun w' hSw => ?_⟩) ((Below.refl _ wa).drew) ?_
            · have e0 := clater c0 hSw; have e1 := clater c1 hSw; have e2 := clater c2 hSw; have e3 := clater c3 hSw; have e4 := clater c4 hSw; have e5 := clater c5 hSw
              clear c0 c1 c2 c3 c4 c5
              go_simp
            try simp only [Act.put, List.setIfInBounds_toArray, List.set_cons_zero, List.set_cons_succ]
            refine anyG_takel (i := 5) (v := (.int .i64 (m : Int))) [6, 7, 8, 9, 10, 11, 12, 13, 14, 15, 16, 17, 18, 19, 20, 21, 22, 23, 24, 25, 26, 27, 28, 29, 30, 31, 32] rfl (by kernel_rfl) (by kernel_rfl) (by kernel_rfl) (by kernel_rfl) (fun _ _ _ h => h) (Or.inl ⟨by rfl, fun w' hSw => ?_⟩) ((Below.refl _ wa).drew) ?_
            · have e0 := clater c0 hSw; have e1 := clater c1 hSw; have e2 := clater c2 hSw; have e3 := clater c3 hSw; have e4 := clater c4 hSw; have e5 := clater c5 hSw
              clear c0 c1 c2 c3 c4 c5
              go_simp
            try simp only [Act.put, List.setIfInBounds_toArray, List.set_cons_zero, List.set_cons_succ]
            refine anyG_one (i := 2) (by kernel_rfl) ?_
            refine wpOp_lit rfl (by rfl) fun K' hK' => ?_
            go_simp
            refine (unhide HNE wa.drew).mono ?_
            rintro r w1 ⟨rfl, rfl⟩
            go_simp
            have hSw1 : Below wa.heap.size wa wa.drew := (Below.refl _ wa).drew
            refine unhide hK' _ _ ⟨fun _ => hSw1, ?_⟩
            clear hK' K'
            refine anyG_takel (i := 6) (v := (.bool true)) [7, 8, 9, 10, 11, 12, 13, 14, 15, 16, 17, 18, 19, 20, 21, 22, 23, 24, 25, 26, 27, 28, 29, 30, 31, 32] rfl (by kernel_rfl) (by kernel_rfl) (by kernel_rfl) (by kernel_rfl) (fun _ _ _ h => h) (Or.inl ⟨by rfl, fun w' hSw => ?_⟩) hSw1 ?_
            · have e0 := clater c0 hSw; have e1 := clater c1 hSw; have e2 := clater c2 hSw; have e3 := clater c3 hSw; have e4 := clater c4 hSw; have e5 := clater c5 hSw
              clear c0 c1 c2 c3 c4 c5
              go_simp
            try simp only [Act.put, List.setIfInBounds_toArray, List.set_cons_zero, List.set_cons_succ]
            refine anyG_takel (i := 7) (v := (.bool true)) [8, 9, 10, 11, 12, 13, 14, 15, 16, 17, 18, 19, 20, 21, 22, 23, 24, 25, 26, 27, 28, 29, 30, 31, 32] rfl (by kernel_rfl) (by kernel_rfl) (by kernel_rfl) (by kernel_rfl) (fun _ _ _ h => h) (Or.inl ⟨by rfl, fun w' hSw => ?_⟩) hSw1 ?_
            · have e0 := clater c0 hSw; have e1 := clater c1 hSw; have e2 := clater c2 hSw; have e3 := clater c3 hSw; have e4 := clater c4 hSw; have e5 := clater c5 hSw
              clear c0 c1 c2 c3 c4 c5
              go_simp
            try simp only [Act.put, List.setIfInBounds_toArray, List.set_cons_zero, List.set_cons_succ]
            refine anyG_takel (i := 8) (v := (.pointer (some ⟨w.heap.size, 0, none⟩))) [9, 10, 11, 12, 13, 14, 15, 16, 17, 18, 19, 20, 21, 22, 23, 24, 25, 26, 27, 28, 29, 30, 31, 32] rfl (by kernel_rfl) (by kernel_rfl) (by kernel_rfl) (by kernel_rfl) (fun _ _ _ h => h) (Or.inl ⟨by rfl, fun w' hSw => ?_⟩) hSw1 ?_
            · have e0 := clater c0 hSw; have e1 := clater c1 hSw; have e2 := clater c2 hSw; have e3 := clater c3 hSw; have e4 := clater c4 hSw; have e5 := clater c5 hSw
              clear c0 c1 c2 c3 c4 c5
              go_simp
            try simp only [Act.put, List.setIfInBounds_toArray, List.set_cons_zero, List.set_cons_succ]
            refine anyG_takel (i := 9) (v := (.int .i64 2)) [10, 11, 12, 13, 14, 15, 16, 17, 18, 19, 20, 21, 22, 23, 24, 25, 26, 27, 28, 29, 30, 31, 32] rfl (by kernel_rfl) (by kernel_rfl) (by kernel_rfl) (by kernel_rfl) (fun _ _ _ h => h) (Or.inl ⟨by rfl, fun w' hSw => ?_⟩) hSw1 ?_
            · have e0 := clater c0 hSw; have e1 := clater c1 hSw; have e2 := clater c2 hSw; have e3 := clater c3 hSw; have e4 := clater c4 hSw; have e5 := clater c5 hSw
              clear c0 c1 c2 c3 c4 c5
              go_simp
            try simp only [Act.put, List.setIfInBounds_toArray, List.set_cons_zero, List.set_cons_succ]
            refine anyG_takel (i := 10) (v := (.bool false)) [11, 12, 13, 14, 15, 16, 17, 18, 19, 20, 21, 22, 23, 24, 25, 26, 27, 28, 29, 30, 31, 32] rfl (by kernel_rfl) (by kernel_rfl) (by kernel_rfl) (by kernel_rfl) (fun _ _ _ h => h) (Or.inl ⟨by rfl, fun w' hSw => ?_⟩) hSw1 ?_
            · have e0 := clater c0 hSw; have e1 := clater c1 hSw; have e2 := clater c2 hSw; have e3 := clater c3 hSw; have e4 := clater c4 hSw; have e5 := clater c5 hSw
              clear c0 c1 c2 c3 c4 c5
              go_simp
            try simp only [Act.put, List.setIfInBounds_toArray, List.set_cons_zero, List.set_cons_succ]
            refine anyG_takel (i := 11) (v := (.bool false)) [12, 13, 14, 15, 16, 17, 18, 19, 20, 21, 22, 23, 24, 25, 26, 27, 28, 29, 30, 31, 32] rfl (by kernel_rfl) (by kernel_rfl) (by kernel_rfl) (by kernel_rfl) (fun _ _ _ h => h) (Or.inl ⟨by rfl, fun w' hSw => ?_⟩) hSw1 ?_
            · have e0 := clater c0 hSw; have e1 := clater c1 hSw; have e2 := clater c2 hSw; have e3 := clater c3 hSw; have e4 := clater c4 hSw; have e5 := clater c5 hSw
              clear c0 c1 c2 c3 c4 c5
              go_simp
            try simp only [Act.put, List.setIfInBounds_toArray, List.set_cons_zero, List.set_cons_succ]
            refine anyG_takel (i := 12) (v := undef) [13, 14, 15, 16, 17, 18, 19, 20, 21, 22, 23, 24, 25, 26, 27, 28, 29, 30, 31, 32] rfl (by kernel_rfl) (by kernel_rfl) (by kernel_rfl) (by kernel_rfl) (fun _ _ _ h => h) (Or.inr ⟨by rfl, rfl⟩) hSw1 ?_
            try simp only [Act.put, List.setIfInBounds_toArray, List.set_cons_zero, List.set_cons_succ]
            refine anyG_takel (i := 13) (v := undef) [14, 15, 16, 17, 18, 19, 20, 21, 22, 23, 24, 25, 26, 27, 28, 29, 30, 31, 32] rfl (by kernel_rfl) (by kernel_rfl) (by kernel_rfl) (by kernel_rfl) (fun _ _ _ h => h) (Or.inr ⟨by rfl, rfl⟩) hSw1 ?_
            try simp only [Act.put, List.setIfInBounds_toArray, List.set_cons_zero, List.set_cons_succ]
            refine anyG_takel (i := 14) (v := undef) [15, 16, 17, 18, 19, 20, 21, 22, 23, 24, 25, 26, 27, 28, 29, 30, 31, 32] rfl (by kernel_rfl) (by kernel_rfl) (by kernel_rfl) (by kernel_rfl) (fun _ _ _ h => h) (Or.inr ⟨by rfl, rfl⟩) hSw1 ?_
            try simp only [Act.put, List.setIfInBounds_toArray, List.set_cons_zero, List.set_cons_succ]
            refine anyG_takel (i := 15) (v := (.bool false)) [16, 17, 18, 19, 20, 21, 22, 23, 24, 25, 26, 27, 28, 29, 30, 31, 32] rfl (by kernel_rfl) (by kernel_rfl) (by kernel_rfl) (by kernel_rfl) (fun _ _ _ h => h) (Or.inl ⟨by rfl, fun w' hSw => ?_⟩) hSw1 ?_
            · have e0 := clater c0 hSw; have e1 := clater c1 hSw; have e2 := clater c2 hSw; have e3 := clater c3 hSw; have e4 := clater c4 hSw; have e5 := clater c5 hSw
              clear c0 c1 c2 c3 c4 c5
              go_simp
            try simp only [Act.put, List.setIfInBounds_toArray, List.set_cons_zero, List.set_cons_succ]
            refine anyG_takel (i := 16) (v := (.bool true)) [17, 18, 19, 20, 21, 22, 23, 24, 25, 26, 27, 28, 29, 30, 31, 32] rfl (by kernel_rfl) (by kernel_rfl) (by kernel_rfl) (by kernel_rfl) (fun _ _ _ h => h) (Or.inl ⟨by rfl, fun w' hSw => ?_⟩) hSw1 ?_
            · have e0 := clater c0 hSw; have e1 := clater c1 hSw; have e2 := clater c2 hSw; have e3 := clater c3 hSw; have e4 := clater c4 hSw; have e5 := clater c5 hSw
              clear c0 c1 c2 c3 c4 c5
              go_simp
            try simp only [Act.put, List.setIfInBounds_toArray, List.set_cons_zero, List.set_cons_succ]
            refine anyG_takel (i := 17) (v := (.bool true)) [18, 19, 20, 21, 22, 23, 24, 25, 26, 27, 28, 29, 30, 31, 32] rfl (by kernel_rfl) (by kernel_rfl) (by kernel_rfl) (by kernel_rfl) (fun _ _ _ h => h) (Or.inl ⟨by rfl, fun w' hSw => ?_⟩) hSw1 ?_
            · have e0 := clater c0 hSw; have e1 := clater c1 hSw; have e2 := clater c2 hSw; have e3 := clater c3 hSw; have e4 := clater c4 hSw; have e5 := clater c5 hSw
              clear c0 c1 c2 c3 c4 c5
              go_simp
            try simp only [Act.put, List.setIfInBounds_toArray, List.set_cons_zero, List.set_cons_succ]
            refine anyG_takel (i := 18) (v := (.bool true)) [19, 20, 21, 22, 23, 24, 25, 26, 27, 28, 29, 30, 31, 32] rfl (by kernel_rfl) (by kernel_rfl) (by kernel_rfl) (by kernel_rfl) (fun _ _ _ h => h) (Or.inl ⟨by rfl, fun w' hSw => ?_⟩) hSw1 ?_
            · have e0 := clater c0 hSw; have e1 := clater c1 hSw; have e2 := clater c2 hSw; have e3 := clater c3 hSw; have e4 := clater c4 hSw; have e5 := clater c5 hSw
              clear c0 c1 c2 c3 c4 c5
              go_simp
            try simp only [Act.put, List.setIfInBounds_toArray, List.set_cons_zero, List.set_cons_succ]
            refine anyG_takel (i := 19) (v := (.pointer (some ⟨w.heap.size, 0, none⟩))) [20, 21, 22, 23, 24, 25, 26, 27, 28, 29, 30, 31, 32] rfl (by kernel_rfl) (by kernel_rfl) (by kernel_rfl) (by kernel_rfl) (fun _ _ _ h => h) (Or.inl ⟨by rfl, fun w' hSw => ?_⟩) hSw1 ?_
            · have e0 := clater c0 hSw; have e1 := clater c1 hSw; have e2 := clater c2 hSw; have e3 := clater c3 hSw; have e4 := clater c4 hSw; have e5 := clater c5 hSw
              clear c0 c1 c2 c3 c4 c5
              go_simp
            try simp only [Act.put, List.setIfInBounds_toArray, List.set_cons_zero, List.set_cons_succ]
            refine anyG_takel (i := 20) (v := (.int .i64 2)) [21, 22, 23, 24, 25, 26, 27, 28, 29, 30, 31, 32] rfl (by kernel_rfl) (by kernel_rfl) (by kernel_rfl) (by kernel_rfl) (fun _ _ _ h => h) (Or.inl ⟨by rfl, fun w' hSw => ?_⟩) hSw1 ?_
            · have e0 := clater c0 hSw; have e1 := clater c1 hSw; have e2 := clater c2 hSw; have e3 := clater c3 hSw; have e4 := clater c4 hSw; have e5 := clater c5 hSw
              clear c0 c1 c2 c3 c4 c5
              go_simp
            try simp only [Act.put, List.setIfInBounds_toArray, List.set_cons_zero, List.set_cons_succ]
            refine anyG_takel (i := 21) (v := (.bool true)) [22, 23, 24, 25, 26, 27, 28, 29, 30, 31, 32] rfl (by kernel_rfl) (by kernel_rfl) (by kernel_rfl) (by kernel_rfl) (fun _ _ _ h => h) (Or.inl ⟨by rfl, fun w' hSw => ?_⟩) hSw1 ?_
            · have e0 := clater c0 hSw; have e1 := clater c1 hSw; have e2 := clater c2 hSw; have e3 := clater c3 hSw; have e4 := clater c4 hSw; have e5 := clater c5 hSw
              clear c0 c1 c2 c3 c4 c5
              go_simp
            try simp only [Act.put, List.setIfInBounds_toArray, List.set_cons_zero, List.set_cons_succ]
            refine anyG_takel (i := 22) (v := (.bool true)) [23, 24, 25, 26, 27, 28, 29, 30, 31, 32] rfl (by kernel_rfl) (by kernel_rfl) (by kernel_rfl) (by kernel_rfl) (fun _ _ _ h => h) (Or.inl ⟨by rfl, fun w' hSw => ?_⟩) hSw1 ?_
            · have e0 := clater c0 hSw; have e1 := clater c1 hSw; have e2 := clater c2 hSw; have e3 := clater c3 hSw; have e4 := clater c4 hSw; have e5 := clater c5 hSw
              clear c0 c1 c2 c3 c4 c5
              go_simp
            try simp only [Act.put, List.setIfInBounds_toArray, List.set_cons_zero, List.set_cons_succ]
            refine anyG_takel (i := 23) (v := (.pointer (some ⟨w.heap.size, 2, none⟩))) [24, 25, 26, 27, 28, 29, 30, 31, 32] rfl (by kernel_rfl) (by kernel_rfl) (by kernel_rfl) (by kernel_rfl) (fun _ _ _ h => h) (Or.inl ⟨by rfl, fun w' hSw => ?_⟩) hSw1 ?_
            · have e0 := clater c0 hSw; have e1 := clater c1 hSw; have e2 := clater c2 hSw; have e3 := clater c3 hSw; have e4 := clater c4 hSw; have e5 := clater c5 hSw
              clear c0 c1 c2 c3 c4 c5
              go_simp
            try simp only [Act.put, List.setIfInBounds_toArray, List.set_cons_zero, List.set_cons_succ]
            refine anyG_takel (i := 24) (v := (.agg #[.int .i64 vk, .int .i64 vn, .string vs])) [25, 26, 27, 28, 29, 30, 31, 32] rfl (by kernel_rfl) (by kernel_rfl) (by kernel_rfl) (by kernel_rfl) (fun _ _ _ h => h) (Or.inl ⟨by rfl, fun w' hSw => ?_⟩) hSw1 ?_
            · have e0 := clater c0 hSw; have e1 := clater c1 hSw; have e2 := clater c2 hSw; have e3 := clater c3 hSw; have e4 := clater c4 hSw; have e5 := clater c5 hSw
              clear c0 c1 c2 c3 c4 c5
              go_simp
            try simp only [Act.put, List.setIfInBounds_toArray, List.set_cons_zero, List.set_cons_succ]
            refine anyG_one (i := 25) (by kernel_rfl) ?_
            refine wpOp_lit rfl (by rfl) fun K' hK' => ?_
            go_simp
            refine (unhide HCL _).mono ?_
            rintro r w2 ⟨rfl, hb2⟩
            go_simp
            have hSw2 : Below wa.heap.size wa w2 := below_step hSw1 hb2
            refine unhide hK' _ _ ⟨fun _ => hSw2, ?_⟩
            clear hK' K'
            rw [Val.open_]
            refine anyG_takel (i := 26) (v := (.string cv.s)) [27, 28, 29, 30, 31, 32] rfl (by kernel_rfl) (by kernel_rfl) (by kernel_rfl) (by kernel_rfl) (fun _ _ _ h => h) (Or.inl ⟨by rfl, fun w' hSw => ?_⟩) hSw2 ?_
            · have e0 := clater c0 hSw; have e1 := clater c1 hSw; have e2 := clater c2 hSw; have e3 := clater c3 hSw; have e4 := clater c4 hSw; have e5 := clater c5 hSw
              clear c0 c1 c2 c3 c4 c5
              go_simp
            try simp only [Act.put, List.setIfInBounds_toArray, List.set_cons_zero, List.set_cons_succ]
            refine anyG_takel (i := 27) (v := (.int .i64 (cv.s.size : Int))) [28, 29, 30, 31, 32] rfl (by kernel_rfl) (by kernel_rfl) (by kernel_rfl) (by kernel_rfl) (fun _ _ _ h => h) (Or.inl ⟨by rfl, fun w' hSw => ?_⟩) hSw2 ?_
            · have e0 := clater c0 hSw; have e1 := clater c1 hSw; have e2 := clater c2 hSw; have e3 := clater c3 hSw; have e4 := clater c4 hSw; have e5 := clater c5 hSw
              clear c0 c1 c2 c3 c4 c5
              go_simp
            try simp only [Act.put, List.setIfInBounds_toArray, List.set_cons_zero, List.set_cons_succ]
            refine anyG_takel (i := 28) (v := (.bool true)) [29, 30, 31, 32] rfl (by kernel_rfl) (by kernel_rfl) (by kernel_rfl) (by kernel_rfl) (fun _ _ _ h => h) (Or.inl ⟨by rfl, fun w' hSw => ?_⟩) hSw2 ?_
            · have e0 := clater c0 hSw; have e1 := clater c1 hSw; have e2 := clater c2 hSw; have e3 := clater c3 hSw; have e4 := clater c4 hSw; have e5 := clater c5 hSw
              clear c0 c1 c2 c3 c4 c5
              go_simp
            try simp only [Act.put, List.setIfInBounds_toArray, List.set_cons_zero, List.set_cons_succ]
            refine anyG_takel (i := 29) (v := (.bool true)) [30, 31, 32] rfl (by kernel_rfl) (by kernel_rfl) (by kernel_rfl) (by kernel_rfl) (fun _ _ _ h => h) (Or.inl ⟨by rfl, fun w' hSw => ?_⟩) hSw2 ?_
            · have e0 := clater c0 hSw; have e1 := clater c1 hSw; have e2 := clater c2 hSw; have e3 := clater c3 hSw; have e4 := clater c4 hSw; have e5 := clater c5 hSw
              clear c0 c1 c2 c3 c4 c5
              go_simp
            try simp only [Act.put, List.setIfInBounds_toArray, List.set_cons_zero, List.set_cons_succ]
            refine anyG_takel (i := 30) (v := (.bool false)) [31, 32] rfl (by kernel_rfl) (by kernel_rfl) (by kernel_rfl) (by kernel_rfl) (fun _ _ _ h => h) (Or.inl ⟨by rfl, fun w' hSw => ?_⟩) hSw2 ?_
            · have e0 := clater c0 hSw; have e1 := clater c1 hSw; have e2 := clater c2 hSw; have e3 := clater c3 hSw; have e4 := clater c4 hSw; have e5 := clater c5 hSw
              clear c0 c1 c2 c3 c4 c5
              go_simp
            try simp only [Act.put, List.setIfInBounds_toArray, List.set_cons_zero, List.set_cons_succ]
            refine anyG_takel (i := 31) (v := (.bool false)) [32] rfl (by kernel_rfl) (by kernel_rfl) (by kernel_rfl) (by kernel_rfl) (fun _ _ _ h => h) (Or.inl ⟨by rfl, fun w' hSw => ?_⟩) hSw2 ?_
            · have e0 := clater c0 hSw; have e1 := clater c1 hSw; have e2 := clater c2 hSw; have e3 := clater c3 hSw; have e4 := clater c4 hSw; have e5 := clater c5 hSw
              clear c0 c1 c2 c3 c4 c5
              go_simp
            try simp only [Act.put, List.setIfInBounds_toArray, List.set_cons_zero, List.set_cons_succ]
            refine anyG_one (i := 32) (by kernel_rfl) ?_
            refine wpOp_lit rfl (by rfl) fun K' hK' => ?_
            go_simp
            refine unhide hK' _ _ ⟨fun hh => absurd hh (by decide), ?_⟩
            clear hK' K'
            refine anyG_done (by kernel_rfl) ?_ _
            refine NoPanic.normal ?_
            clear c0 c1 c2 c3 c4 c5
            go_wp2
            go_meet
            exact ⟨(by rw [unhide HE]), hSw2⟩
        · skip
          have HE : Hid (soundE e = true) := by show _ = _; rw [← unhide HRR, unhide HX]; simp [*]
          clear HX HRR
          refine wp_region_noPanic ?_
          refine wp_region_G (S := fun w' : World => Below wa.heap.size wa w') (k := 32) (by kernel_rfl) ?_
          refine anyG_takel (i := 0) (v := (.pointer (some ⟨w.heap.size, 0, none⟩))) [1, 2, 6, 7, 8, 9, 10, 11, 12, 13, 14, 15, 16, 17, 18, 19, 20, 21, 22, 23, 24, 25, 26, 27, 28, 29, 30, 31, 32] rfl (by kernel_rfl) (by kernel_rfl) (by kernel_rfl) (by kernel_rfl) (fun _ _ _ h => h) (Or.inl ⟨by rfl, fun w' hSw => ?_⟩) ((Below.refl _ wa).drew) ?_
          · have e0 := clater c0 hSw; have e1 := clater c1 hSw; have e2 := clater c2 hSw; have e3 := clater c3 hSw; have e4 := clater c4 hSw; have e5 := clater c5 hSw
            clear c0 c1 c2 c3 c4 c5
            go_simp
          try simp only [Act.put, List.setIfInBounds_toArray, List.set_cons_zero, List.set_cons_succ]
          refine anyG_takel (i := 1) (v := (.int .i64 op)) [2, 6, 7, 8, 9, 10, 11, 12, 13, 14, 15, 16, 17, 18, 19, 20, 21, 22, 23, 24, 25, 26, 27, 28, 29, 30, 31, 32] rfl (by kernel_rfl) (by kernel_rfl) (by kernel_rfl) (by kernel_rfl) (fun _ _ _ h => h) (Or.inl ⟨by rfl, fun w' hSw => ?_⟩) ((Below.refl _ wa).drew) ?_
          · have e0 := clater c0 hSw; have e1 := clater c1 hSw; have e2 := clater c2 hSw; have e3 := clater c3 hSw; have e4 := clater c4 hSw; have e5 := clater c5 hSw
            clear c0 c1 c2 c3 c4 c5
            go_simp
          try simp only [Act.put, List.setIfInBounds_toArray, List.set_cons_zero, List.set_cons_succ]
          refine anyG_takel (i := 3) (v := (.pointer (some ⟨w.heap.size, 5, none⟩))) [4, 5, 6, 7, 8, 9, 10, 11, 12, 13, 14, 15, 16, 17, 18, 19, 20, 21, 22, 23, 24, 25, 26, 27, 28, 29, 30, 31, 32] rfl (by kernel_rfl) (by kernel_rfl) (by kernel_rfl) (by kernel_rfl) (fun _ _ _ h => h) (Or.inl ⟨by rfl, fun w' hSw => ?_⟩) ((Below.refl _ wa).drew) ?_
          · have e0 := clater c0 hSw; have e1 := clater c1 hSw; have e2 := clater c2 hSw; have e3 := clater c3 hSw; have e4 := clater c4 hSw; have e5 := clater c5 hSw
            clear c0 c1 c2 c3 c4 c5
            go_simp
          try simp only [Act.put, List.setIfInBounds_toArray, List.set_cons_zero, List.set_cons_succ]
          refine anyG_takel (i := 4) (v := (.slice a m c)) [5, 6, 7, 8, 9, 10, 11, 12, 13, 14, 15, 16, 17, 18, 19, 20, 21, 22, 23, 24, 25, 26, 27, 28, 29, 30, 31, 32] rfl (by kernel_rfl) (by kernel_rfl) (by kernel_rfl) (by kernel_rfl) (fun _ _ _ h => h) (Or.inl ⟨by rfl, fun w' hSw => ?_⟩) ((Below.refl _ wa).drew) ?_
          · have e0 := clater c0 hSw; have e1 := clater c1 hSw; have e2 := clater c2 hSw; have e3 := clater c3 hSw; have e4 := clater c4 hSw; have e5 := clater c5 hSw
            clear c0 c1 c2 c3 c4 c5
            go_simp
          try simp only [Act.put, List.setIfInBounds_toArray, List.set_cons_zero, List.set_cons_succ]
          refine anyG_takel (i := 5) (v := (.int .i64 (m : Int))) [6, 7, 8, 9, 10, 11, 12, 13, 14, 15, 16, 17, 18, 19, 20, 21, 22, 23, 24, 25, 26, 27, 28, 29, 30, 31, 32] rfl (by kernel_rfl) (by kernel_rfl) (by kernel_rfl) (by kernel_rfl) (fun _ _ _ h => h) (Or.inl ⟨by rfl, fun w' hSw => ?_⟩) ((Below.refl _ wa).drew) ?_
          · have e0 := clater c0 hSw; have e1 := clater c1 hSw; have e2 := clater c2 hSw; have e3 := clater c3 hSw; have e4 := clater c4 hSw; have e5 := clater c5 hSw
            clear c0 c1 c2 c3 c4 c5
            go_simp
          try simp only [Act.put, List.setIfInBounds_toArray, List.set_cons_zero, List.set_cons_succ]
          refine anyG_one (i := 2) (by kernel_rfl) ?_
          refine wpOp_lit rfl (by rfl) fun K' hK' => ?_
          go_simp
          refine (unhide HNE wa.drew).mono ?_
          rintro r w1 ⟨rfl, rfl⟩
          go_simp
          have hSw1 : Below wa.heap.size wa wa.drew := (Below.refl _ wa).drew
          refine unhide hK' _ _ ⟨fun _ => hSw1, ?_⟩
          clear hK' K'
          refine anyG_takel (i := 6) (v := (.bool true)) [7, 8, 9, 10, 11, 12, 13, 14, 15, 16, 17, 18, 19, 20, 21, 22, 23, 24, 25, 26, 27, 28, 29, 30, 31, 32] rfl (by kernel_rfl) (by kernel_rfl) (by kernel_rfl) (by kernel_rfl) (fun _ _ _ h => h) (Or.inl ⟨by rfl, fun w' hSw => ?_⟩) hSw1 ?_
          · have e0 := clater c0 hSw; have e1 := clater c1 hSw; have e2 := clater c2 hSw; have e3 := clater c3 hSw; have e4 := clater c4 hSw; have e5 := clater c5 hSw
            clear c0 c1 c2 c3 c4 c5
            go_simp
          try simp only [Act.put, List.setIfInBounds_toArray, List.set_cons_zero, List.set_cons_succ]
          refine anyG_takel (i := 7) (v := (.bool true)) [8, 9, 10, 11, 12, 13, 14, 15, 16, 17, 18, 19, 20, 21, 22, 23, 24, 25, 26, 27, 28, 29, 30, 31, 32] rfl (by kernel_rfl) (by kernel_rfl) (by kernel_rfl) (by kernel_rfl) (fun _ _ _ h => h) (Or.inl ⟨by rfl, fun w' hSw => ?_⟩) hSw1 ?_
          · have e0 := clater c0 hSw; have e1 := clater c1 hSw; have e2 := clater c2 hSw; have e3 := clater c3 hSw; have e4 := clater c4 hSw; have e5 := clater c5 hSw
            clear c0 c1 c2 c3 c4 c5
            go_simp
          try simp only [Act.put, List.setIfInBounds_toArray, List.set_cons_zero, List.set_cons_succ]
          refine anyG_takel (i := 8) (v := (.pointer (some ⟨w.heap.size, 0, none⟩))) [9, 10, 11, 12, 13, 14, 15, 16, 17, 18, 19, 20, 21, 22, 23, 24, 25, 26, 27, 28, 29, 30, 31, 32] rfl (by kernel_rfl) (by kernel_rfl) (by kernel_rfl) (by kernel_rfl) (fun _ _ _ h => h) (Or.inl ⟨by rfl, fun w' hSw => ?_⟩) hSw1 ?_
          · have e0 := clater c0 hSw; have e1 := clater c1 hSw; have e2 := clater c2 hSw; have e3 := clater c3 hSw; have e4 := clater c4 hSw; have e5 := clater c5 hSw
            clear c0 c1 c2 c3 c4 c5
            go_simp
          try simp only [Act.put, List.setIfInBounds_toArray, List.set_cons_zero, List.set_cons_succ]
          refine anyG_takel (i := 9) (v := (.int .i64 op)) [10, 11, 12, 13, 14, 15, 16, 17, 18, 19, 20, 21, 22, 23, 24, 25, 26, 27, 28, 29, 30, 31, 32] rfl (by kernel_rfl) (by kernel_rfl) (by kernel_rfl) (by kernel_rfl) (fun _ _ _ h => h) (Or.inl ⟨by rfl, fun w' hSw => ?_⟩) hSw1 ?_
          · have e0 := clater c0 hSw; have e1 := clater c1 hSw; have e2 := clater c2 hSw; have e3 := clater c3 hSw; have e4 := clater c4 hSw; have e5 := clater c5 hSw
            clear c0 c1 c2 c3 c4 c5
            go_simp
          try simp only [Act.put, List.setIfInBounds_toArray, List.set_cons_zero, List.set_cons_succ]
          refine anyG_takel (i := 10) (v := (.bool false)) [11, 12, 13, 14, 15, 16, 17, 18, 19, 20, 21, 22, 23, 24, 25, 26, 27, 28, 29, 30, 31, 32] rfl (by kernel_rfl) (by kernel_rfl) (by kernel_rfl) (by kernel_rfl) (fun _ _ _ h => h) (Or.inl ⟨by rfl, fun w' hSw => ?_⟩) hSw1 ?_
          · have e0 := clater c0 hSw; have e1 := clater c1 hSw; have e2 := clater c2 hSw; have e3 := clater c3 hSw; have e4 := clater c4 hSw; have e5 := clater c5 hSw
            clear c0 c1 c2 c3 c4 c5
            go_simp
          try simp only [Act.put, List.setIfInBounds_toArray, List.set_cons_zero, List.set_cons_succ]
          refine anyG_takel (i := 11) (v := (.bool false)) [12, 13, 14, 15, 16, 17, 18, 19, 20, 21, 22, 23, 24, 25, 26, 27, 28, 29, 30, 31, 32] rfl (by kernel_rfl) (by kernel_rfl) (by kernel_rfl) (by kernel_rfl) (fun _ _ _ h => h) (Or.inl ⟨by rfl, fun w' hSw => ?_⟩) hSw1 ?_
          · have e0 := clater c0 hSw; have e1 := clater c1 hSw; have e2 := clater c2 hSw; have e3 := clater c3 hSw; have e4 := clater c4 hSw; have e5 := clater c5 hSw
            clear c0 c1 c2 c3 c4 c5
            go_simp
          try simp only [Act.put, List.setIfInBounds_toArray, List.set_cons_zero, List.set_cons_succ]
          refine anyG_takel (i := 12) (v := undef) [13, 14, 15, 16, 17, 18, 19, 20, 21, 22, 23, 24, 25, 26, 27, 28, 29, 30, 31, 32] rfl (by kernel_rfl) (by kernel_rfl) (by kernel_rfl) (by kernel_rfl) (fun _ _ _ h => h) (Or.inr ⟨by rfl, rfl⟩) hSw1 ?_
          try simp only [Act.put, List.setIfInBounds_toArray, List.set_cons_zero, List.set_cons_succ]
          refine anyG_takel (i := 13) (v := undef) [14, 15, 16, 17, 18, 19, 20, 21, 22, 23, 24, 25, 26, 27, 28, 29, 30, 31, 32] rfl (by kernel_rfl) (by kernel_rfl) (by kernel_rfl) (by kernel_rfl) (fun _ _ _ h => h) (Or.inr ⟨by rfl, rfl⟩) hSw1 ?_
          try simp only [Act.put, List.setIfInBounds_toArray, List.set_cons_zero, List.set_cons_succ]
          refine anyG_takel (i := 14) (v := undef) [15, 16, 17, 18, 19, 20, 21, 22, 23, 24, 25, 26, 27, 28, 29, 30, 31, 32] rfl (by kernel_rfl) (by kernel_rfl) (by kernel_rfl) (by kernel_rfl) (fun _ _ _ h => h) (Or.inr ⟨by rfl, rfl⟩) hSw1 ?_
          try simp only [Act.put, List.setIfInBounds_toArray, List.set_cons_zero, List.set_cons_succ]
          refine anyG_takel (i := 15) (v := (.bool false)) [16, 17, 18, 19, 20, 21, 22, 23, 24, 25, 26, 27, 28, 29, 30, 31, 32] rfl (by kernel_rfl) (by kernel_rfl) (by kernel_rfl) (by kernel_rfl) (fun _ _ _ h => h) (Or.inl ⟨by rfl, fun w' hSw => ?_⟩) hSw1 ?_
          · have e0 := clater c0 hSw; have e1 := clater c1 hSw; have e2 := clater c2 hSw; have e3 := clater c3 hSw; have e4 := clater c4 hSw; have e5 := clater c5 hSw
            clear c0 c1 c2 c3 c4 c5
            go_simp
          try simp only [Act.put, List.setIfInBounds_toArray, List.set_cons_zero, List.set_cons_succ]
          refine anyG_takel (i := 16) (v := (.bool true)) [17, 18, 19, 20, 21, 22, 23, 24, 25, 26, 27, 28, 29, 30, 31, 32] rfl (by kernel_rfl) (by kernel_rfl) (by kernel_rfl) (by kernel_rfl) (fun _ _ _ h => h) (Or.inl ⟨by rfl, fun w' hSw => ?_⟩) hSw1 ?_
          · have e0 := clater c0 hSw; have e1 := clater c1 hSw; have e2 := clater c2 hSw; have e3 := clater c3 hSw; have e4 := clater c4 hSw; have e5 := clater c5 hSw
            clear c0 c1 c2 c3 c4 c5
            go_simp
          try simp only [Act.put, List.setIfInBounds_toArray, List.set_cons_zero, List.set_cons_succ]
          refine anyG_takel (i := 17) (v := (.bool true)) [18, 19, 20, 21, 22, 23, 24, 25, 26, 27, 28, 29, 30, 31, 32] rfl (by kernel_rfl) (by kernel_rfl) (by kernel_rfl) (by kernel_rfl) (fun _ _ _ h => h) (Or.inl ⟨by rfl, fun w' hSw => ?_⟩) hSw1 ?_
          · have e0 := clater c0 hSw; have e1 := clater c1 hSw; have e2 := clater c2 hSw; have e3 := clater c3 hSw; have e4 := clater c4 hSw; have e5 := clater c5 hSw
            clear c0 c1 c2 c3 c4 c5
            go_simp
          try simp only [Act.put, List.setIfInBounds_toArray, List.set_cons_zero, List.set_cons_succ]
          refine anyG_takel (i := 18) (v := (.bool true)) [19, 20, 21, 22, 23, 24, 25, 26, 27, 28, 29, 30, 31, 32] rfl (by kernel_rfl) (by kernel_rfl) (by kernel_rfl) (by kernel_rfl) (fun _ _ _ h => h) (Or.inl ⟨by rfl, fun w' hSw => ?_⟩) hSw1 ?_
          · have e0 := clater c0 hSw; have e1 := clater c1 hSw; have e2 := clater c2 hSw; have e3 := clater c3 hSw; have e4 := clater c4 hSw; have e5 := clater c5 hSw
            clear c0 c1 c2 c3 c4 c5
            go_simp
          try simp only [Act.put, List.setIfInBounds_toArray, List.set_cons_zero, List.set_cons_succ]
          refine anyG_takel (i := 19) (v := (.pointer (some ⟨w.heap.size, 0, none⟩))) [20, 21, 22, 23, 24, 25, 26, 27, 28, 29, 30, 31, 32] rfl (by kernel_rfl) (by kernel_rfl) (by kernel_rfl) (by kernel_rfl) (fun _ _ _ h => h) (Or.inl ⟨by rfl, fun w' hSw => ?_⟩) hSw1 ?_
          · have e0 := clater c0 hSw; have e1 := clater c1 hSw; have e2 := clater c2 hSw; have e3 := clater c3 hSw; have e4 := clater c4 hSw; have e5 := clater c5 hSw
            clear c0 c1 c2 c3 c4 c5
            go_simp
          try simp only [Act.put, List.setIfInBounds_toArray, List.set_cons_zero, List.set_cons_succ]
          refine anyG_takel (i := 20) (v := (.int .i64 op)) [21, 22, 23, 24, 25, 26, 27, 28, 29, 30, 31, 32] rfl (by kernel_rfl) (by kernel_rfl) (by kernel_rfl) (by kernel_rfl) (fun _ _ _ h => h) (Or.inl ⟨by rfl, fun w' hSw => ?_⟩) hSw1 ?_
          · have e0 := clater c0 hSw; have e1 := clater c1 hSw; have e2 := clater c2 hSw; have e3 := clater c3 hSw; have e4 := clater c4 hSw; have e5 := clater c5 hSw
            clear c0 c1 c2 c3 c4 c5
            go_simp
          try simp only [Act.put, List.setIfInBounds_toArray, List.set_cons_zero, List.set_cons_succ]
          refine anyG_takel (i := 21) (v := (.bool false)) [22, 23, 24, 25, 26, 27, 28, 29, 30, 31, 32] rfl (by kernel_rfl) (by kernel_rfl) (by kernel_rfl) (by kernel_rfl) (fun _ _ _ h => h) (Or.inl ⟨by rfl, fun w' hSw => ?_⟩) hSw1 ?_
          · have e0 := clater c0 hSw; have e1 := clater c1 hSw; have e2 := clater c2 hSw; have e3 := clater c3 hSw; have e4 := clater c4 hSw; have e5 := clater c5 hSw
            clear c0 c1 c2 c3 c4 c5
            go_simp
          try simp only [Act.put, List.setIfInBounds_toArray, List.set_cons_zero, List.set_cons_succ]
          refine anyG_takel (i := 22) (v := (.bool false)) [23, 24, 25, 26, 27, 28, 29, 30, 31, 32] rfl (by kernel_rfl) (by kernel_rfl) (by kernel_rfl) (by kernel_rfl) (fun _ _ _ h => h) (Or.inl ⟨by rfl, fun w' hSw => ?_⟩) hSw1 ?_
          · have e0 := clater c0 hSw; have e1 := clater c1 hSw; have e2 := clater c2 hSw; have e3 := clater c3 hSw; have e4 := clater c4 hSw; have e5 := clater c5 hSw
            clear c0 c1 c2 c3 c4 c5
            go_simp
          try simp only [Act.put, List.setIfInBounds_toArray, List.set_cons_zero, List.set_cons_succ]
          refine anyG_takel (i := 23) (v := undef) [24, 25, 26, 27, 28, 29, 30, 31, 32] rfl (by kernel_rfl) (by kernel_rfl) (by kernel_rfl) (by kernel_rfl) (fun _ _ _ h => h) (Or.inr ⟨by rfl, rfl⟩) hSw1 ?_
          try simp only [Act.put, List.setIfInBounds_toArray, List.set_cons_zero, List.set_cons_succ]
          refine anyG_takel (i := 24) (v := undef) [25, 26, 27, 28, 29, 30, 31, 32] rfl (by kernel_rfl) (by kernel_rfl) (by kernel_rfl) (by kernel_rfl) (fun _ _ _ h => h) (Or.inr ⟨by rfl, rfl⟩) hSw1 ?_
          try simp only [Act.put, List.setIfInBounds_toArray, List.set_cons_zero, List.set_cons_succ]
          refine anyG_one (i := 25) (by kernel_rfl) ?_
          refine wpOp_noR rfl (by rfl) ⟨fun _ => hSw1, ?_⟩
          try simp only [Act.put, List.setIfInBounds_toArray, List.set_cons_zero, List.set_cons_succ]
          refine anyG_takel (i := 26) (v := undef) [27, 28, 29, 30, 31, 32] rfl (by kernel_rfl) (by kernel_rfl) (by kernel_rfl) (by kernel_rfl) (fun _ _ _ h => h) (Or.inr ⟨by rfl, rfl⟩) hSw1 ?_
          try simp only [Act.put, List.setIfInBounds_toArray, List.set_cons_zero, List.set_cons_succ]
          refine anyG_takel (i := 27) (v := undef) [28, 29, 30, 31, 32] rfl (by kernel_rfl) (by kernel_rfl) (by kernel_rfl) (by kernel_rfl) (fun _ _ _ h => h) (Or.inr ⟨by rfl, rfl⟩) hSw1 ?_
          try simp only [Act.put, List.setIfInBounds_toArray, List.set_cons_zero, List.set_cons_succ]
          refine anyG_takel (i := 28) (v := undef) [29, 30, 31, 32] rfl (by kernel_rfl) (by kernel_rfl) (by kernel_rfl) (by kernel_rfl) (fun _ _ _ h => h) (Or.inr ⟨by rfl, rfl⟩) hSw1 ?_
          try simp only [Act.put, List.setIfInBounds_toArray, List.set_cons_zero, List.set_cons_succ]
          refine anyG_takel (i := 29) (v := (.bool false)) [30, 31, 32] rfl (by kernel_rfl) (by kernel_rfl) (by kernel_rfl) (by kernel_rfl) (fun _ _ _ h => h) (Or.inl ⟨by rfl, fun w' hSw => ?_⟩) hSw1 ?_
          · have e0 := clater c0 hSw; have e1 := clater c1 hSw; have e2 := clater c2 hSw; have e3 := clater c3 hSw; have e4 := clater c4 hSw; have e5 := clater c5 hSw
            clear c0 c1 c2 c3 c4 c5
            go_simp
          try simp only [Act.put, List.setIfInBounds_toArray, List.set_cons_zero, List.set_cons_succ]
          refine anyG_takel (i := 30) (v := (.bool true)) [31, 32] rfl (by kernel_rfl) (by kernel_rfl) (by kernel_rfl) (by kernel_rfl) (fun _ _ _ h => h) (Or.inl ⟨by rfl, fun w' hSw => ?_⟩) hSw1 ?_
          · have e0 := clater c0 hSw; have e1 := clater c1 hSw; have e2 := clater c2 hSw; have e3 := clater c3 hSw; have e4 := clater c4 hSw; have e5 := clater c5 hSw
            clear c0 c1 c2 c3 c4 c5
            go_simp
          try simp only [Act.put, List.setIfInBounds_toArray, List.set_cons_zero, List.set_cons_succ]
          refine anyG_takel (i := 31) (v := (.bool true)) [32] rfl (by kernel_rfl) (by kernel_rfl) (by kernel_rfl) (by kernel_rfl) (fun _ _ _ h => h) (Or.inl ⟨by rfl, fun w' hSw => ?_⟩) hSw1 ?_
          · have e0 := clater c0 hSw; have e1 := clater c1 hSw; have e2 := clater c2 hSw; have e3 := clater c3 hSw; have e4 := clater c4 hSw; have e5 := clater c5 hSw
            clear c0 c1 c2 c3 c4 c5
            go_simp
          try simp only [Act.put, List.setIfInBounds_toArray, List.set_cons_zero, List.set_cons_succ]
          refine anyG_one (i := 32) (by kernel_rfl) ?_
          refine wpOp_lit rfl (by rfl) fun K' hK' => ?_
          go_simp
          refine unhide hK' _ _ ⟨fun hh => absurd hh (by decide), ?_⟩
          clear hK' K'
          refine anyG_done (by kernel_rfl) ?_ _
          refine NoPanic.normal ?_
          clear c0 c1 c2 c3 c4 c5
          go_wp2
          go_meet
          exact ⟨(by rw [unhide HE]), hSw1⟩
    · have h7' : ¬ (m : Int) = ar := fun h => h7 h.symm
      have HE : Hid (soundE e = false) := by show _ = _; rw [← unhide HRR, unhide HX]; simp [*]
      clear HX HRR
      refine wp_region_noPanic ?_
      refine wp_region_G (S := fun w' : World => Below wa.heap.size wa w') (k := 32) (by kernel_rfl) ?_
      refine anyG_takel (i := 0) (v := (.pointer (some ⟨w.heap.size, 0, none⟩))) [1, 2, 6, 7, 8, 9, 10, 11, 12, 13, 14, 15, 16, 17, 18, 19, 20, 21, 22, 23, 24, 25, 26, 27, 28, 29, 30, 31, 32] rfl (by kernel_rfl) (by kernel_rfl) (by kernel_rfl) (by kernel_rfl) (fun _ _ _ h => h) (Or.inl ⟨by rfl, fun w' hSw => ?_⟩) ((Below.refl _ wa).drew) ?_
      · have e0 := clater c0 hSw; have e1 := clater c1 hSw; have e2 := clater c2 hSw; have e3 := clater c3 hSw; have e4 := clater c4 hSw; have e5 := clater c5 hSw
        clear c0 c1 c2 c3 c4 c5
        go_simp
      try simp only [Act.put, List.setIfInBounds_toArray, List.set_cons_zero, List.set_cons_succ]
      refine anyG_takel (i := 1) (v := (.int .i64 op)) [2, 6, 7, 8, 9, 10, 11, 12, 13, 14, 15, 16, 17, 18, 19, 20, 21, 22, 23, 24, 25, 26, 27, 28, 29, 30, 31, 32] rfl (by kernel_rfl) (by kernel_rfl) (by kernel_rfl) (by kernel_rfl) (fun _ _ _ h => h) (Or.inl ⟨by rfl, fun w' hSw => ?_⟩) ((Below.refl _ wa).drew) ?_
      · have e0 := clater c0 hSw; have e1 := clater c1 hSw; have e2 := clater c2 hSw; have e3 := clater c3 hSw; have e4 := clater c4 hSw; have e5 := clater c5 hSw
        clear c0 c1 c2 c3 c4 c5
        go_simp
      try simp only [Act.put, List.setIfInBounds_toArray, List.set_cons_zero, List.set_cons_succ]
      refine anyG_takel (i := 3) (v := (.pointer (some ⟨w.heap.size, 5, none⟩))) [4, 5, 6, 7, 8, 9, 10, 11, 12, 13, 14, 15, 16, 17, 18, 19, 20, 21, 22, 23, 24, 25, 26, 27, 28, 29, 30, 31, 32] rfl (by kernel_rfl) (by kernel_rfl) (by kernel_rfl) (by kernel_rfl) (fun _ _ _ h => h) (Or.inl ⟨by rfl, fun w' hSw => ?_⟩) ((Below.refl _ wa).drew) ?_
      · have e0 := clater c0 hSw; have e1 := clater c1 hSw; have e2 := clater c2 hSw; have e3 := clater c3 hSw; have e4 := clater c4 hSw; have e5 := clater c5 hSw
        clear c0 c1 c2 c3 c4 c5
        go_simp
      try simp only [Act.put, List.setIfInBounds_toArray, List.set_cons_zero, List.set_cons_succ]
      refine anyG_takel (i := 4) (v := (.slice a m c)) [5, 6, 7, 8, 9, 10, 11, 12, 13, 14, 15, 16, 17, 18, 19, 20, 21, 22, 23, 24, 25, 26, 27, 28, 29, 30, 31, 32] rfl (by kernel_rfl) (by kernel_rfl) (by kernel_rfl) (by kernel_rfl) (fun _ _ _ h => h) (Or.inl ⟨by rfl, fun w' hSw => ?_⟩) ((Below.refl _ wa).drew) ?_
      · have e0 := clater c0 hSw; have e1 := clater c1 hSw; have e2 := clater c2 hSw; have e3 := clater c3 hSw; have e4 := clater c4 hSw; have e5 := clater c5 hSw
        clear c0 c1 c2 c3 c4 c5
        go_simp
      try simp only [Act.put, List.setIfInBounds_toArray, List.set_cons_zero, List.set_cons_succ]
      refine anyG_takel (i := 5) (v := (.int .i64 (m : Int))) [6, 7, 8, 9, 10, 11, 12, 13, 14, 15, 16, 17, 18, 19, 20, 21, 22, 23, 24, 25, 26, 27, 28, 29, 30, 31, 32] rfl (by kernel_rfl) (by kernel_rfl) (by kernel_rfl) (by kernel_rfl) (fun _ _ _ h => h) (Or.inl ⟨by rfl, fun w' hSw => ?_⟩) ((Below.refl _ wa).drew) ?_
      · have e0 := clater c0 hSw; have e1 := clater c1 hSw; have e2 := clater c2 hSw; have e3 := clater c3 hSw; have e4 := clater c4 hSw; have e5 := clater c5 hSw
        clear c0 c1 c2 c3 c4 c5
        go_simp
      try simp only [Act.put, List.setIfInBounds_toArray, List.set_cons_zero, List.set_cons_succ]
      refine anyG_one (i := 2) (by kernel_rfl) ?_
      refine wpOp_lit rfl (by rfl) fun K' hK' => ?_
      go_simp
      refine (unhide HNE wa.drew).mono ?_
      rintro r w1 ⟨rfl, rfl⟩
      go_simp
      have hSw1 : Below wa.heap.size wa wa.drew := (Below.refl _ wa).drew
      refine unhide hK' _ _ ⟨fun _ => hSw1, ?_⟩
      clear hK' K'
      refine anyG_takel (i := 6) (v := (.bool false)) [7, 8, 9, 10, 11, 12, 13, 14, 15, 16, 17, 18, 19, 20, 21, 22, 23, 24, 25, 26, 27, 28, 29, 30, 31, 32] rfl (by kernel_rfl) (by kernel_rfl) (by kernel_rfl) (by kernel_rfl) (fun _ _ _ h => h) (Or.inl ⟨by rfl, fun w' hSw => ?_⟩) hSw1 ?_
      · have e0 := clater c0 hSw; have e1 := clater c1 hSw; have e2 := clater c2 hSw; have e3 := clater c3 hSw; have e4 := clater c4 hSw; have e5 := clater c5 hSw
        clear c0 c1 c2 c3 c4 c5
        go_simp
      try simp only [Act.put, List.setIfInBounds_toArray, List.set_cons_zero, List.set_cons_succ]
      refine anyG_takel (i := 7) (v := (.bool false)) [8, 9, 10, 11, 12, 13, 14, 15, 16, 17, 18, 19, 20, 21, 22, 23, 24, 25, 26, 27, 28, 29, 30, 31, 32] rfl (by kernel_rfl) (by kernel_rfl) (by kernel_rfl) (by kernel_rfl) (fun _ _ _ h => h) (Or.inl ⟨by rfl, fun w' hSw => ?_⟩) hSw1 ?_
      · have e0 := clater c0 hSw; have e1 := clater c1 hSw; have e2 := clater c2 hSw; have e3 := clater c3 hSw; have e4 := clater c4 hSw; have e5 := clater c5 hSw
        clear c0 c1 c2 c3 c4 c5
        go_simp
      try simp only [Act.put, List.setIfInBounds_toArray, List.set_cons_zero, List.set_cons_succ]
      refine anyG_takel (i := 8) (v := undef) [9, 10, 11, 12, 13, 14, 15, 16, 17, 18, 19, 20, 21, 22, 23, 24, 25, 26, 27, 28, 29, 30, 31, 32] rfl (by kernel_rfl) (by kernel_rfl) (by kernel_rfl) (by kernel_rfl) (fun _ _ _ h => h) (Or.inr ⟨by rfl, rfl⟩) hSw1 ?_
      try simp only [Act.put, List.setIfInBounds_toArray, List.set_cons_zero, List.set_cons_succ]
      refine anyG_takel (i := 9) (v := undef) [10, 11, 12, 13, 14, 15, 16, 17, 18, 19, 20, 21, 22, 23, 24, 25, 26, 27, 28, 29, 30, 31, 32] rfl (by kernel_rfl) (by kernel_rfl) (by kernel_rfl) (by kernel_rfl) (fun _ _ _ h => h) (Or.inr ⟨by rfl, rfl⟩) hSw1 ?_
      try simp only [Act.put, List.setIfInBounds_toArray, List.set_cons_zero, List.set_cons_succ]
      refine anyG_takel (i := 10) (v := undef) [11, 12, 13, 14, 15, 16, 17, 18, 19, 20, 21, 22, 23, 24, 25, 26, 27, 28, 29, 30, 31, 32] rfl (by kernel_rfl) (by kernel_rfl) (by kernel_rfl) (by kernel_rfl) (fun _ _ _ h => h) (Or.inr ⟨by rfl, rfl⟩) hSw1 ?_
      try simp only [Act.put, List.setIfInBounds_toArray, List.set_cons_zero, List.set_cons_succ]
      refine anyG_takel (i := 11) (v := undef) [12, 13, 14, 15, 16, 17, 18, 19, 20, 21, 22, 23, 24, 25, 26, 27, 28, 29, 30, 31, 32] rfl (by kernel_rfl) (by kernel_rfl) (by kernel_rfl) (by kernel_rfl) (fun _ _ _ h => h) (Or.inr ⟨by rfl, rfl⟩) hSw1 ?_
      try simp only [Act.put, List.setIfInBounds_toArray, List.set_cons_zero, List.set_cons_succ]
      refine anyG_takel (i := 12) (v := undef) [13, 14, 15, 16, 17, 18, 19, 20, 21, 22, 23, 24, 25, 26, 27, 28, 29, 30, 31, 32] rfl (by kernel_rfl) (by kernel_rfl) (by kernel_rfl) (by kernel_rfl) (fun _ _ _ h => h) (Or.inr ⟨by rfl, rfl⟩) hSw1 ?_
      try simp only [Act.put, List.setIfInBounds_toArray, List.set_cons_zero, List.set_cons_succ]
      refine anyG_takel (i := 13) (v := undef) [14, 15, 16, 17, 18, 19, 20, 21, 22, 23, 24, 25, 26, 27, 28, 29, 30, 31, 32] rfl (by kernel_rfl) (by kernel_rfl) (by kernel_rfl) (by kernel_rfl) (fun _ _ _ h => h) (Or.inr ⟨by rfl, rfl⟩) hSw1 ?_
      try simp only [Act.put, List.setIfInBounds_toArray, List.set_cons_zero, List.set_cons_succ]
      refine anyG_takel (i := 14) (v := undef) [15, 16, 17, 18, 19, 20, 21, 22, 23, 24, 25, 26, 27, 28, 29, 30, 31, 32] rfl (by kernel_rfl) (by kernel_rfl) (by kernel_rfl) (by kernel_rfl) (fun _ _ _ h => h) (Or.inr ⟨by rfl, rfl⟩) hSw1 ?_
      try simp only [Act.put, List.setIfInBounds_toArray, List.set_cons_zero, List.set_cons_succ]
      refine anyG_takel (i := 15) (v := undef) [16, 17, 18, 19, 20, 21, 22, 23, 24, 25, 26, 27, 28, 29, 30, 31, 32] rfl (by kernel_rfl) (by kernel_rfl) (by kernel_rfl) (by kernel_rfl) (fun _ _ _ h => h) (Or.inr ⟨by rfl, rfl⟩) hSw1 ?_
      try simp only [Act.put, List.setIfInBounds_toArray, List.set_cons_zero, List.set_cons_succ]
      refine anyG_takel (i := 16) (v := undef) [17, 18, 19, 20, 21, 22, 23, 24, 25, 26, 27, 28, 29, 30, 31, 32] rfl (by kernel_rfl) (by kernel_rfl) (by kernel_rfl) (by kernel_rfl) (fun _ _ _ h => h) (Or.inr ⟨by rfl, rfl⟩) hSw1 ?_
      try simp only [Act.put, List.setIfInBounds_toArray, List.set_cons_zero, List.set_cons_succ]
      refine anyG_takel (i := 17) (v := (.bool false)) [18, 19, 20, 21, 22, 23, 24, 25, 26, 27, 28, 29, 30, 31, 32] rfl (by kernel_rfl) (by kernel_rfl) (by kernel_rfl) (by kernel_rfl) (fun _ _ _ h => h) (Or.inl ⟨by rfl, fun w' hSw => ?_⟩) hSw1 ?_
      · have e0 := clater c0 hSw; have e1 := clater c1 hSw; have e2 := clater c2 hSw; have e3 := clater c3 hSw; have e4 := clater c4 hSw; have e5 := clater c5 hSw
        clear c0 c1 c2 c3 c4 c5
        go_simp
      try simp only [Act.put, List.setIfInBounds_toArray, List.set_cons_zero, List.set_cons_succ]
      refine anyG_takel (i := 18) (v := (.bool false)) [19, 20, 21, 22, 23, 24, 25, 26, 27, 28, 29, 30, 31, 32] rfl (by kernel_rfl) (by kernel_rfl) (by kernel_rfl) (by kernel_rfl) (fun _ _ _ h => h) (Or.inl ⟨by rfl, fun w' hSw => ?_⟩) hSw1 ?_
      · have e0 := clater c0 hSw; have e1 := clater c1 hSw; have e2 := clater c2 hSw; have e3 := clater c3 hSw; have e4 := clater c4 hSw; have e5 := clater c5 hSw
        clear c0 c1 c2 c3 c4 c5
        go_simp
      try simp only [Act.put, List.setIfInBounds_toArray, List.set_cons_zero, List.set_cons_succ]
      refine anyG_takel (i := 19) (v := undef) [20, 21, 22, 23, 24, 25, 26, 27, 28, 29, 30, 31, 32] rfl (by kernel_rfl) (by kernel_rfl) (by kernel_rfl) (by kernel_rfl) (fun _ _ _ h => h) (Or.inr ⟨by rfl, rfl⟩) hSw1 ?_
      try simp only [Act.put, List.setIfInBounds_toArray, List.set_cons_zero, List.set_cons_succ]
      refine anyG_takel (i := 20) (v := undef) [21, 22, 23, 24, 25, 26, 27, 28, 29, 30, 31, 32] rfl (by kernel_rfl) (by kernel_rfl) (by kernel_rfl) (by kernel_rfl) (fun _ _ _ h => h) (Or.inr ⟨by rfl, rfl⟩) hSw1 ?_
      try simp only [Act.put, List.setIfInBounds_toArray, List.set_cons_zero, List.set_cons_succ]
      refine anyG_takel (i := 21) (v := undef) [22, 23, 24, 25, 26, 27, 28, 29, 30, 31, 32] rfl (by kernel_rfl) (by kernel_rfl) (by kernel_rfl) (by kernel_rfl) (fun _ _ _ h => h) (Or.inr ⟨by rfl, rfl⟩) hSw1 ?_
      try simp only [Act.put, List.setIfInBounds_toArray, List.set_cons_zero, List.set_cons_succ]
      refine anyG_takel (i := 22) (v := undef) [23, 24, 25, 26, 27, 28, 29, 30, 31, 32] rfl (by kernel_rfl) (by kernel_rfl) (by kernel_rfl) (by kernel_rfl) (fun _ _ _ h => h) (Or.inr ⟨by rfl, rfl⟩) hSw1 ?_
      try simp only [Act.put, List.setIfInBounds_toArray, List.set_cons_zero, List.set_cons_succ]
      refine anyG_takel (i := 23) (v := undef) [24, 25, 26, 27, 28, 29, 30, 31, 32] rfl (by kernel_rfl) (by kernel_rfl) (by kernel_rfl) (by kernel_rfl) (fun _ _ _ h => h) (Or.inr ⟨by rfl, rfl⟩) hSw1 ?_
      try simp only [Act.put, List.setIfInBounds_toArray, List.set_cons_zero, List.set_cons_succ]
      refine anyG_takel (i := 24) (v := undef) [25, 26, 27, 28, 29, 30, 31, 32] rfl (by kernel_rfl) (by kernel_rfl) (by kernel_rfl) (by kernel_rfl) (fun _ _ _ h => h) (Or.inr ⟨by rfl, rfl⟩) hSw1 ?_
      try simp only [Act.put, List.setIfInBounds_toArray, List.set_cons_zero, List.set_cons_succ]
      refine anyG_one (i := 25) (by kernel_rfl) ?_
      refine wpOp_noR rfl (by rfl) ⟨fun _ => hSw1, ?_⟩
      try simp only [Act.put, List.setIfInBounds_toArray, List.set_cons_zero, List.set_cons_succ]
      refine anyG_takel (i := 26) (v := undef) [27, 28, 29, 30, 31, 32] rfl (by kernel_rfl) (by kernel_rfl) (by kernel_rfl) (by kernel_rfl) (fun _ _ _ h => h) (Or.inr ⟨by rfl, rfl⟩) hSw1 ?_
      try simp only [Act.put, List.setIfInBounds_toArray, List.set_cons_zero, List.set_cons_succ]
      refine anyG_takel (i := 27) (v := undef) [28, 29, 30, 31, 32] rfl (by kernel_rfl) (by kernel_rfl) (by kernel_rfl) (by kernel_rfl) (fun _ _ _ h => h) (Or.inr ⟨by rfl, rfl⟩) hSw1 ?_
      try simp only [Act.put, List.setIfInBounds_toArray, List.set_cons_zero, List.set_cons_succ]
      refine anyG_takel (i := 28) (v := undef) [29, 30, 31, 32] rfl (by kernel_rfl) (by kernel_rfl) (by kernel_rfl) (by kernel_rfl) (fun _ _ _ h => h) (Or.inr ⟨by rfl, rfl⟩) hSw1 ?_
      try simp only [Act.put, List.setIfInBounds_toArray, List.set_cons_zero, List.set_cons_succ]
      refine anyG_takel (i := 29) (v := undef) [30, 31, 32] rfl (by kernel_rfl) (by kernel_rfl) (by kernel_rfl) (by kernel_rfl) (fun _ _ _ h => h) (Or.inr ⟨by rfl, rfl⟩) hSw1 ?_
      try simp only [Act.put, List.setIfInBounds_toArray, List.set_cons_zero, List.set_cons_succ]
      refine anyG_takel (i := 30) (v := undef) [31, 32] rfl (by kernel_rfl) (by kernel_rfl) (by kernel_rfl) (by kernel_rfl) (fun _ _ _ h => h) (Or.inr ⟨by rfl, rfl⟩) hSw1 ?_
      try simp only [Act.put, List.setIfInBounds_toArray, List.set_cons_zero, List.set_cons_succ]
      refine anyG_takel (i := 31) (v := (.bool false)) [32] rfl (by kernel_rfl) (by kernel_rfl) (by kernel_rfl) (by kernel_rfl) (fun _ _ _ h => h) (Or.inl ⟨by rfl, fun w' hSw => ?_⟩) hSw1 ?_
      · have e0 := clater c0 hSw; have e1 := clater c1 hSw; have e2 := clater c2 hSw; have e3 := clater c3 hSw; have e4 := clater c4 hSw; have e5 := clater c5 hSw
        clear c0 c1 c2 c3 c4 c5
        go_simp
      try simp only [Act.put, List.setIfInBounds_toArray, List.set_cons_zero, List.set_cons_succ]
      refine anyG_one (i := 32) (by kernel_rfl) ?_
      refine wpOp_lit rfl (by rfl) fun K' hK' => ?_
      go_simp
      refine unhide hK' _ _ ⟨fun hh => absurd hh (by decide), ?_⟩
      clear hK' K'
      refine anyG_done (by kernel_rfl) ?_ _
      refine NoPanic.normal ?_
      clear c0 c1 c2 c3 c4 c5
      go_wp2
      go_meet
      exact ⟨(by rw [unhide HE]), hSw1⟩
  case rest =>
    obtain ⟨rfl, HBC⟩ := hcut
    clear hcsz HCL HNE HX
    obtain ⟨c0, c1, c2, c3, c4, c5⟩ := (show Six wa w.heap.size e a c from unhide H6x).later (unhide HBC)
    have HB1 := hide (below_step (unhide HB0) (unhide HBC))
    generalize soundE e = sd at *
    go_wp2
    clear c0 c1 c2 c3 c4 c5 H6 H6x HBC HB0
    go_loopw [1, 10, 63] (fun s1 s10 i wr => ∃ (k : Nat) (nn tt : Int), k ≤ e.args.length ∧ i = .int .i64 (k : Int) ∧ s1 = .int .i64 nn ∧ s10 = .int .i64 tt ∧ 0 ≤ nn ∧ nn ≤ 401 ∧ 1 ≤ tt ∧ tt ≤ 41 ∧ Hid (rmL e.args (N + 1) H H = rmL (e.args.drop k) nn H tt) ∧ Hid (Below w.heap.size w wr)) (fun _ _ i _ => e.args.length - (intOf i).toNat)
    case atStart => exact ⟨0, N + 1, H, Nat.zero_le _, rfl, by go_num, rfl, by omega, by omega, by omega, by omega, rfl, unhide HB1⟩
    case round =>
      obtain ⟨k, nn, tt, hk, rfl, rfl, rfl, g1, g2, g3, g4, HM, HI⟩ := hrel
      by_cases hlt : k < e.args.length
      · have h9 : (k : Int) < (e.args.length : Int) := by omega
        obtain ⟨x, hx⟩ : ∃ x, e.args[k]? = some x := ⟨_, List.getElem?_eq_getElem hlt⟩
        have hd : e.args.drop k = x :: e.args.drop (k + 1) := by
          obtain ⟨q1, q2⟩ := List.getElem?_eq_some_iff.1 hx
          rw [List.drop_eq_getElem_cons q1, q2]
        obtain ⟨vb, vo, ea, hat⟩ := Ex.all_get (Ex.all_later _ (unhide HAL) (unhide HI)) hx
        obtain ⟨a', c', ⟨d0, d1, d2, d3, d4, d5⟩, hal⟩ := Ex.at_open hat
        have HC := hide (unhide HIH k x hx nn (H + 1) a' c' (wr.alloc (.cells #[.int .i64 x.op, .int .i64 x.n, .int .i64 x.v.k, .int .i64 x.v.n, .string x.v.s, .slice a' x.args.length c'] 74)) g1 g2 (by omega) (by omega) (Ex.all_later _ hal (below_alloc (Below.refl _ _) _)))
        rw [Ex.val_open] at HC
        rw [hd, rmL] at HM
        have hrg := rm_range x nn (H + 1) g1 g2 (by omega) (by omega)
        have HY := hide (rm_yes x nn (H + 1))
        obtain ⟨q, hq⟩ : ∃ q, rmE x nn (H + 1) = q := ⟨_, rfl⟩
        rw [hq] at HC HM hrg HY
        obtain ⟨qn, qt, ok⟩ := q
        simp only at hrg
        obtain ⟨r1, r2, r3, r4⟩ := hrg
        have HB2 := hide (below_alloc (unhide HI) (.cells #[.int .i64 x.op, .int .i64 x.n, .int .i64 x.v.k, .int .i64 x.v.n, .string x.v.s, .slice a' x.args.length c'] 74))
        subst ea
        clear hx hd hat hal hq HI
        cases ok with
        | false =>
          have HE : Hid (R = (qn, max tt qt, false)) := by
            have h1 := unhide HM
            have h2 := unhide HR
            simp only [Bool.false_eq_true, if_false] at h1
            rw [h1] at h2
            show _ = _
            simpa using h2
          clear HM HY
          go_wp2_with (go_at_call 77; refine (unhide HC).mono ?_; rintro r w3 ⟨rfl, hb3⟩)
          all_goals (refine bodyPost_ret (v := .tuple #[.int .i64 qn, .int .i64 (max tt qt), .bool false]) (by simp [results, Tryz.results77, go_sem]; omega) rfl ⟨by rw [unhide HE], below_step (unhide HB2) hb3⟩)
        | true =>
          have hy := (unhide HY rfl).2.2.2.1
          simp only at hy
          have HM2 : Hid (rmL e.args (N + 1) H H = rmL (e.args.drop (k + 1)) qn H (max tt qt)) := by have := unhide HM; show _ = _; simpa using this
          clear HM HY
          go_wp2_with (go_at_call 77; refine (unhide HC).mono ?_; rintro r w3 ⟨rfl, hb3⟩)
          refine ⟨⟨k + 1, qn, max tt qt, by omega, by go_num, rfl, by rw [max_if], by omega, by omega, by omega, by omega, HM2, below_step (unhide HB2) hb3⟩, by simp [intOf]; omega⟩
      · have h9 : ¬ (k : Int) < (e.args.length : Int) := by omega
        have HE : Hid (R = (nn, tt, sd)) := by
          have h1 := unhide HM
          have h2 := unhide HR
          rw [List.drop_eq_nil_of_le (by omega), rmL] at h1
          rw [h1] at h2
          exact h2
        clear HM HR
        go_wp2
        refine bodyPost_ret (v := .tuple #[.int .i64 nn, .int .i64 tt, .bool sd]) (by simp [results, Tryz.results77, go_sem]) rfl ⟨by rw [unhide HE], unhide HI⟩
set_option maxHeartbeats 400000 in
theorem rmeas_far (e : Ex) (N H : Int) (a : Option Addr) (c : Nat) (w : World) (hN0 : 0 ≤ N) (hN : N ≤ 401) (hH0 : 1 ≤ H) (hH : H ≤ 41) (hfar : 400 < N ∨ 40 < H) :
    Calls Tryz.prog 77 #[e.val a c, .int .i64 N, .int .i64 H] w fun r w' => r = M3 (rmE e N H) ∧ Below w.heap.size w w' := by
  have HR : Hid (rmE e N H = (N + 1, H, false)) := by
    show _ = _
    rw [rmE_eq, if_pos (by simp only [Bool.or_eq_true, decide_eq_true_eq]; exact hfar)]
  have HB0 := hide (below_alloc (Below.refl _ w) (.cells #[.int .i64 e.op, .int .i64 e.n, .int .i64 e.v.k, .int .i64 e.v.n, .string e.v.s, .slice a e.args.length c] 74))
  generalize rmE e N H = R at *
  rw [Ex.val_open]
  by_cases h1 : 400 < N
  · clear hfar
    go_enter Tryz.func77, Tryz.ntmps77
    go_wp2
    refine bodyPost_ret (v := .tuple #[.int .i64 (N + 1), .int .i64 H, .bool false]) (by simp [results, Tryz.results77, go_sem]) rfl ⟨by rw [unhide HR], unhide HB0⟩
  · have h2 : 40 < H := by omega
    clear hfar
    go_enter Tryz.func77, Tryz.ntmps77
    go_wp2
    refine bodyPost_ret (v := .tuple #[.int .i64 (N + 1), .int .i64 H, .bool false]) (by simp [results, Tryz.results77, go_sem]) rfl ⟨by rw [unhide HR], unhide HB0⟩
theorem rmeas_all : ∀ (k : Nat) (e : Ex), e.size ≤ k → e.fin → ∀ (N H : Int) (a : Option Addr) (c : Nat) (w : World), 0 ≤ N → N ≤ 401 → 1 ≤ H → H ≤ 41 → Ex.all w a e.args →
    Calls Tryz.prog 77 #[e.val a c, .int .i64 N, .int .i64 H] w fun r w' => r = M3 (rmE e N H) ∧ Below w.heap.size w w'
  | 0, e, hs, _, _, _, _, _, _, _, _, _, _, _ => by rw [Ex.size_mk] at hs; omega
  | k + 1, e, hs, hf, N, H, a, c, w, h1, h2, h3, h4, ha => by
    by_cases hfar : 400 < N ∨ 40 < H
    · exact rmeas_far e N H a c w h1 h2 h3 h4 hfar
    · exact rmeas_step e hf N H a c w h1 (by omega) h3 (by omega) ha fun i x hx N' H' a' c' W g1 g2 g3 g4 hW =>
        rmeas_all k x (by have := Ex.size_arg hx; omega) (Ex.fin_arg hf hx) N' H' a' c' W g1 g2 g3 g4 hW
end Go.Proofs.YtcpndojkfngioaaGreat
