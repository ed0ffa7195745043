import Derived.Test.YtmjeiepljlepbacGreatExA
set_option linter.unusedSimpArgs false
set_option linter.unusedVariables false
namespace Go.Proofs.YtmjeiepljlepbacGreat
open Go.RowKit Go.Sort

set_option maxHeartbeats 400000 in
theorem arity_any (op : Int) (w : World) : Calls Tryz.prog 95 #[.int .i64 op] w fun e w' => e = .returned (.int .i64 (arI op)) ∧ w' = w := by
  by_cases h1 : op = 1
  · subst h1
    go_enter Tryz.func95, Tryz.ntmps95
    go_wp2
    go_ret
    exact ⟨rfl, rfl⟩
  by_cases h2 : op = 2
  · subst h2
    go_enter Tryz.func95, Tryz.ntmps95
    go_wp2
    go_ret
    exact ⟨rfl, rfl⟩
  have e1 : (op == 1) = false := by simpa using h1
  have e2 : (op == 2) = false := by simpa using h2
  by_cases h3 : 3 ≤ op ∧ op ≤ 6
  · obtain ⟨h3, h4⟩ := h3
    have e : arI op = 1 := by simp [arI, e1, e2, h3, h4]
    rw [e]
    clear h1 h2 e
    go_enter Tryz.func95, Tryz.ntmps95
    go_wp2
    go_ret
    exact ⟨rfl, rfl⟩
  by_cases h7 : 7 ≤ op ∧ op ≤ 20
  · obtain ⟨h5, h6⟩ := h7
    have e : arI op = 2 := by
      have : ¬ op ≤ 6 := by omega
      simp [arI, e1, e2, h5, h6, this]
    rw [e]
    have h3' : 3 ≤ op := by omega
    have h4' : ¬ op ≤ 6 := by omega
    clear h1 h2 e h3
    go_enter Tryz.func95, Tryz.ntmps95
    go_wp2
    go_ret
    exact ⟨rfl, rfl⟩
  by_cases h21 : op = 21
  · subst h21
    go_enter Tryz.func95, Tryz.ntmps95
    go_wp2
    go_ret
    exact ⟨rfl, rfl⟩
  have e21 : (op == 21) = false := by simpa using h21
  have e : arI op = -1 := by
    unfold arI
    rw [e1, e2, e21]
    have g1 : (decide (3 ≤ op) && decide (op ≤ 6)) = false := by simp; omega
    have g2 : (decide (7 ≤ op) && decide (op ≤ 20)) = false := by simp; omega
    rw [g1, g2]; rfl
  rw [e]
  have hc : (¬ 3 ≤ op) ∨ (3 ≤ op ∧ ¬ op ≤ 6 ∧ 7 ≤ op ∧ ¬ op ≤ 20) := by omega
  clear h1 h2 h21 e h3 h7
  rcases hc with h3 | ⟨h3, h4, h5, h6⟩
  · have h5 : ¬ 7 ≤ op := by omega
    go_enter Tryz.func95, Tryz.ntmps95
    go_wp2
    go_ret
    exact ⟨rfl, rfl⟩
  · go_enter Tryz.func95, Tryz.ntmps95
    go_wp2
    go_ret
    exact ⟨rfl, rfl⟩
theorem field2 (k n : Int) (s : ByteArray) (W : World) : (Instr.field 38 (.agg #[.int .i64 k, .int .i64 n, .string s]) 2).run Tryz.prog W = .ok (.string s) W := by kernel_rfl
theorem field0 (k n : Int) (s : ByteArray) (W : World) : (Instr.field 38 (.agg #[.int .i64 k, .int .i64 n, .string s]) 0).run Tryz.prog W = .ok (.int .i64 k) W := by kernel_rfl
theorem arity_q (op : Int) (w : World) : Calls Tryz.prog 95 #[.int .i64 op] w fun e w' => e = .returned (.int .i64 (arI op)) ∧ ∃ n, w' = w.drewN n :=
  (arity_any op w).mono fun e w' ⟨h1, h2⟩ => ⟨h1, 0, by rw [h2]; rfl⟩
set_option maxHeartbeats 1000000 in
set_option maxRecDepth 100000 in
theorem sound_any (e : Ex) (a : Option Addr) (c : Nat) (w : World) (hl : e.args.length ≤ 140737488355328) (hv : e.v.s.size ≤ 140737488355328) :
    Calls Tryz.prog 62 #[e.val a c] w fun e' w' => e' = .returned (.bool (soundE e)) ∧ Below w.heap.size w w' := by
  rw [Ex.val_open]
  have HA := hide (arity_q e.op)
  obtain ⟨cv, hcv⟩ : ∃ cv, cv = cleanV e.v := ⟨_, rfl⟩
  have HC : Hid (∀ W, Calls Tryz.prog 47 #[e.v.v] W fun e' w' => e' = .returned cv.v ∧ Below W.heap.size W w') := fun W => by rw [hcv]; exact clean_any e.v W
  have hse : soundE e = (((e.args.length : Int) == arI e.op) && (if e.op == 1 then decide (0 ≤ e.n) else if e.op == 2 then decide (cv.s.size ≤ 1000) else true)) := by rw [hcv]; rfl
  rw [hse]
  clear hse
  obtain ⟨ar, har⟩ : ∃ ar, ar = arI e.op := ⟨_, rfl⟩
  have HAR : Hid (∀ W, Calls Tryz.prog 95 #[.int .i64 e.op] W fun e' w' => e' = .returned (.int .i64 ar) ∧ w' = W) := fun W => by rw [har]; exact arity_any e.op W
  rw [← har]
  obtain ⟨R, hR⟩ : ∃ R, R = (((e.args.length : Int) == ar) && (if e.op == 1 then decide (0 ≤ e.n) else if e.op == 2 then decide (cv.s.size ≤ 1000) else true)) := ⟨_, rfl⟩
  rw [← hR]
  have HR := hide hR
  clear hR
  have H6 : Hid (Six (w.alloc (.cells #[.int .i64 e.op, .int .i64 e.n, .int .i64 e.v.k, .int .i64 e.v.n, .string e.v.s, .slice a e.args.length c] 59)) w.heap.size e a c) := Six.new w e a c
  have HB := hide (below_alloc (Below.refl _ w) (.cells #[.int .i64 e.op, .int .i64 e.n, .int .i64 e.v.k, .int .i64 e.v.n, .string e.v.s, .slice a e.args.length c] 59))
  clear HA har hcv
  go_enter Tryz.func62, Tryz.ntmps62
  go_upto_region 1 with fail
  obtain ⟨wa, hwa⟩ : ∃ wa, wa = w.alloc (.cells #[.int .i64 e.op, .int .i64 e.n, .int .i64 e.v.k, .int .i64 e.v.n, .string e.v.s, .slice a e.args.length c] 59) := ⟨_, rfl⟩
  rw [← hwa] at H6 HB ⊢
  clear hwa
  obtain ⟨c0, c1, c2, c3, c4, c5⟩ := unhide H6
  obtain ⟨bb, hbb⟩ : ∃ bb, ((e.args.length : Int) != ar) = bb := ⟨_, rfl⟩
  go_cut [9] (fun s9 wx => s9 = .bool bb ∧ Below wa.heap.size wa wx)
  case first =>
    go_region_with (go_at_call 95; refine (unhide HAR _).mono ?_; rintro e' wn ⟨rfl, rfl⟩)
    all_goals
      go_wp2
      go_meet
      exact ⟨rfl, (Below.refl _ _).drew⟩
  case rest =>
    obtain ⟨rfl, hb1⟩ := hcut
    rename World => w1
    obtain ⟨c0, c1, c2, c3, c4, c5⟩ := (unhide H6).later hb1
    have HB1 := hide (below_step (unhide HB) hb1)
    have hee : ((e.args.length : Int) == ar) = !bb := by rw [← hbb]; simp [bne]
    rw [hee] at HR
    clear hee hbb
    cases bb with
    | true =>
      go_wp2
      go_ret
      exact ⟨by rw [unhide HR]; rfl, unhide HB1⟩
    | false =>
      rcases Bool.eq_false_or_eq_true (e.op == 1) with h1 | h1
      · rw [h1] at HR
        go_wp2
        go_ret
        exact ⟨by rw [unhide HR]; simp, unhide HB1⟩
      · rw [h1] at HR
        rcases Bool.eq_false_or_eq_true (e.op == 2) with h2 | h2
        · rw [h2] at HR
          rw [Val.open_] at HC
          have hf2 := field2
          go_wp2_with (go_at_call 47; refine (unhide HC _).mono ?_; rintro e' w2 ⟨rfl, hb2⟩; rw [Val.open_])
          go_ret
          exact ⟨by rw [unhide HR]; simp; omega, below_step (unhide HB1) hb2⟩
        · rw [h2] at HR
          go_wp2
          go_ret
          exact ⟨by rw [unhide HR]; simp, unhide HB1⟩
end Go.Proofs.YtmjeiepljlepbacGreat
