import Derived.Test.YtbmeoabafmpacaaCellB
import Derived.Deep.DeepCutAuto
set_option linter.unusedSimpArgs false
set_option linter.unusedVariables false
namespace Go.Proofs.Ytbmeoabafmpacaa
open Go.RowKit Go.Sort

theorem clo_any (n : Int) (w : World) :
    Calls Try.prog 36 #[.int .i64 n] w fun e w' => e = .returned (.agg #[.int .i64 1, .int .i64 n, .string ⟨#[]⟩]) ∧ Below w.heap.size w w' := by
  go_enter Try.func36, Try.ntmps36
  go_wp2
  exact bodyPost_ret (v := .agg #[.int .i64 1, .int .i64 n, .string ⟨#[]⟩]) (by simp [results, Try.results36, go_sem]) rfl ⟨rfl, (Below.refl _ _).alloc (Nat.le_refl _) _⟩

def smallB (n : Int) : Bool := decide (-4611686018427387904 < n) && decide (n < 4611686018427387904)
theorem small_any (n : Int) (w : World) :
    Calls Try.prog 37 #[.int .i64 n] w fun e w' => e = .returned (.bool (smallB n)) ∧ Below w.heap.size w w' := by
  unfold smallB
  by_cases h : -4611686018427387904 < n
  · have h1 : decide (-4611686018427387904 < n) = true := by simpa using h
    go_enter Try.func37, Try.ntmps37
    go_wp2
    go_ret
    exact ⟨by simp [h], Below.refl _ _⟩
  · have h1 : decide (-4611686018427387904 < n) = false := by simpa using h
    go_enter Try.func37, Try.ntmps37
    go_wp2
    go_ret
    exact ⟨by simp [h], Below.refl _ _⟩

/-- The three cells of a value's box. -/
def BoxAt (w : World) (b : Nat) (x : Val) : Prop := w.cell? ⟨b, 0, none⟩ = some (.int .i64 x.k) ∧ w.cell? ⟨b, 1, none⟩ = some (.int .i64 x.n) ∧ w.cell? ⟨b, 2, none⟩ = some (.string x.s)

theorem BoxAt.later {w w' : World} {b : Nat} {x : Val} (h : BoxAt w b x) (hb : Below w.heap.size w w') : BoxAt w' b x :=
  ⟨cell_later hb h.1, cell_later hb h.2.1, cell_later hb h.2.2⟩

theorem reckon_vv (op x y : Int) (hx : In64 x) (hy : In64 y) (w : World) :
    Calls Try.prog 15 #[.int .i64 op, .agg #[.int .i64 1, .int .i64 x, .string ⟨#[]⟩], .agg #[.int .i64 1, .int .i64 y, .string ⟨#[]⟩]] w fun e w' => e = .returned (optV (reck op x y)).v ∧ Below w.heap.size w w' :=
  reckon_any op (.num x) (.num y) hx hy w

theorem below_step {W0 w' w1 : World} (h : Below W0.heap.size W0 w') (h1 : Below w'.heap.size w' w1) : Below W0.heap.size W0 w1 := h.trans (h1.mono h.size)
theorem below_alloc {W0 w' : World} (h : Below W0.heap.size W0 w') (o : Obj) : Below W0.heap.size W0 (w'.alloc o) := h.alloc h.size o

theorem small_is (n : Int) (c : Bool) (h : smallB n = c) (w : World) :
    Calls Try.prog 37 #[.int .i64 n] w fun e w' => e = .returned (.bool c) ∧ Below w.heap.size w w' := by
  rw [← h]; exact small_any n w
theorem back_sub (x y m : Int) (hx : In64 x) (h : reck 7 x y = some m) : In64 m ∧ reck 8 m y = some x := by
  unfold In64 at *
  simp only [reck, if_true] at h
  split at h
  · rename_i hf
    cases h
    simp [fitsB] at hf
    refine ⟨by omega, ?_⟩
    have e : x + y - y = x := by omega
    simp [reck, e, fitsB]
    omega
  · cases h
theorem small_fits (x y : Int) (h1 : smallB x = true) (h2 : smallB y = true) : reck 7 x y = some (wrap64 (x + y)) := by
  simp [smallB] at h1 h2
  have : fitsB (x + y) = true := by simp [fitsB]; omega
  simp [reck, this, wrap_fits this]
theorem back_div (x y : Int) (hx : In64 x) (hf : fitsB (x.tdiv y) = true) : (wrap64 (wrap64 (x.tdiv y * y) + x.tmod y) == x) = true := by
  have e1 := Int.mul_tdiv_add_tmod x y
  rw [Int.mul_comm] at e1
  rw [beq_iff_eq]
  unfold In64 at hx
  have e : wrap64 (wrap64 (x.tdiv y * y) + x.tmod y) = wrap64 (x.tdiv y * y + x.tmod y) := by
    generalize x.tdiv y * y = p
    generalize x.tmod y = r
    unfold wrap64
    omega
  rw [e, e1, wrap_fits (by simp [fitsB]; omega)]
theorem tmod_sign (x y : Int) (h : ¬ x.tmod y = 0) : decide (x.tmod y < 0) = decide (x < 0) := by
  rw [decide_eq_decide]
  rcases Int.lt_or_le x 0 with hx | hx
  · have h1 : 0 ≤ (-x).tmod y := Int.tmod_nonneg _ (by omega)
    rw [Int.neg_tmod] at h1
    omega
  · have := Int.tmod_nonneg y hx
    omega

set_option maxHeartbeats 2000000 in
set_option maxRecDepth 100000 in
theorem law_reckons (x y : Int) (hx : In64 x) (hy : In64 y) (w : World) :
    Calls Try.prog 7 #[.int .i64 x, .int .i64 y] w fun e w' => e = .returned (.bool true) ∧ Below w.heap.size w w' := by
  have HR := hide (fun op w => reckon_vv op x y hx hy w)
  have HX := hide hx
  have HY := hide hy
  clear hx hy
  go_enter Try.func7, Try.ntmps7
  go_upto_region 2 with fail
  go_cut [6] (fun s6 wx => ∃ b, s6 = .pointer (some ⟨b, 0, none⟩) ∧ BoxAt wx b (optV (reck 7 x y)) ∧ Below w.heap.size w wx)
  case first =>
    go_wp2_with (first
      | (go_at_call_of 36 (Value.int IntKind.i64 x); refine (clo_any _ _).mono ?_; rintro e w1 ⟨rfl, hb1⟩)
      | (go_at_call_of 36 (Value.int IntKind.i64 y); refine (clo_any _ _).mono ?_; rintro e w2 ⟨rfl, hb2⟩)
      | (go_at_call 15; refine (unhide HR _ _).mono ?_; rintro e w3 ⟨rfl, hb3⟩; rw [Val.open_]))
    go_meet
    exact ⟨w3.heap.size, rfl, ⟨by simp [go_sem], by simp [go_sem], by simp [go_sem]⟩, ((hb1.trans (hb2.mono hb1.size)).trans (hb3.mono (Nat.le_trans hb1.size hb2.size))).alloc (Nat.le_trans hb1.size (Nat.le_trans hb2.size hb3.size)) _⟩
  case rest =>
    obtain ⟨b, rfl, hbox, hbel⟩ := hcut
    rename World => wa
    go_upto_region 3 with fail
    go_cut [29] (fun s29 wx => s29 = .bool false ∧ Below wa.heap.size wa wx)
    case first =>
      cases hr : reck 7 x y with
      | none =>
        rw [hr] at hbox
        obtain ⟨q0, q1, q2⟩ := hbox
        have k0 := cell_regrown q0
        have k1 := cell_regrown q1
        have k2 := cell_regrown q2
        clear hr
        simp only [optV, Val.null] at q0 q1 q2 k0 k1 k2
        refine wp_region_quiet_below (by kernel_rfl) (by kernel_rfl) ?_
        repeat (go_big_quiet_step (fail))
        refine wpQuiet_nil ?_
        intro w' hw'
        have hB : Below wa.heap.size wa w' := by obtain ⟨p, rfl⟩ := hw'; exact below_regrown _ _ _
        clear hw'
        go_wp2
        go_meet
        exact ⟨rfl, hB⟩
      | some m =>
        rw [hr] at hbox
        obtain ⟨q0, q1, q2⟩ := hbox
        have k0 := cell_regrown q0
        have k1 := cell_regrown q1
        have k2 := cell_regrown q2
        simp only [optV, Val.num] at q0 q1 q2 k0 k1 k2
        obtain ⟨hm, h8⟩ := back_sub x y m (unhide HX) hr
        have h15 : ∀ w, Calls Try.prog 15 #[.int .i64 8, .agg #[.int .i64 1, .int .i64 m, .string ⟨#[]⟩], .agg #[.int .i64 1, .int .i64 y, .string ⟨#[]⟩]] w fun e w' => e = .returned (.agg #[.int .i64 1, .int .i64 x, .string ⟨#[]⟩]) ∧ Below w.heap.size w w' := by
          intro w
          have := reckon_vv 8 m y hm (unhide HY) w
          rw [h8] at this
          exact this
        clear hr h8 hm
        refine wp_region_quiet_below (by kernel_rfl) (by kernel_rfl) ?_
        repeat (go_big_quiet_step (first | exact Calls.regrown_of (clo_any _ _) | exact Calls.regrown_of (h15 _)))
        refine wpQuiet_nil ?_
        intro w' hw'
        have hB : Below wa.heap.size wa w' := by obtain ⟨p, rfl⟩ := hw'; exact below_regrown _ _ _
        clear hw'
        go_wp2
        go_meet
        exact ⟨rfl, hB⟩
    case rest =>
      obtain ⟨rfl, hB3⟩ := hcut
      replace hbox := hbox.later hB3
      replace hbel := below_step hbel hB3
      clear hB3
      rename World => wb
      go_upto_region 5 with fail
      go_cut [44] (fun s44 wx => s44 = .bool false ∧ Below wb.heap.size wb wx)
      case first =>
        rcases Bool.eq_false_or_eq_true (smallB x) with s1 | s1
        · rcases Bool.eq_false_or_eq_true (smallB y) with s2 | s2
          · rw [small_fits x y s1 s2] at hbox
            obtain ⟨q0, q1, q2⟩ := hbox
            have k0 := cell_regrown q0
            have k1 := cell_regrown q1
            have k2 := cell_regrown q2
            simp only [optV, Val.num] at q0 q1 q2 k0 k1 k2
            refine wp_region_quiet_below (by kernel_rfl) (by kernel_rfl) ?_
            repeat (go_big_quiet_step (first | exact Calls.regrown_of (clo_any _ _) | exact Calls.regrown_of (small_is x _ s1 _) | exact Calls.regrown_of (small_is y _ s2 _)))
            refine wpQuiet_nil ?_
            intro w' hw'
            have hB : Below wb.heap.size wb w' := by obtain ⟨p, rfl⟩ := hw'; exact below_regrown _ _ _
            clear hw'
            go_wp2
            go_meet
            exact ⟨rfl, hB⟩
          · refine wp_region_quiet_below (by kernel_rfl) (by kernel_rfl) ?_
            repeat (go_big_quiet_step (first | exact Calls.regrown_of (small_is x _ s1 _) | exact Calls.regrown_of (small_is y _ s2 _)))
            refine wpQuiet_nil ?_
            intro w' hw'
            have hB : Below wb.heap.size wb w' := by obtain ⟨p, rfl⟩ := hw'; exact below_regrown _ _ _
            clear hw'
            go_wp2
            go_meet
            exact ⟨rfl, hB⟩
        · refine wp_region_quiet_below (by kernel_rfl) (by kernel_rfl) ?_
          repeat (go_big_quiet_step (exact Calls.regrown_of (small_is x _ s1 _)))
          refine wpQuiet_nil ?_
          intro w' hw'
          have hB : Below wb.heap.size wb w' := by obtain ⟨p, rfl⟩ := hw'; exact below_regrown _ _ _
          clear hw'
          go_wp2
          go_meet
          exact ⟨rfl, hB⟩
      case rest =>
        obtain ⟨rfl, hB3⟩ := hcut
        replace hbel := below_step hbel hB3
        clear hB3 hbox
        rename World => wd
        go_upto_region 7 with fail
        go_cut [7, 8] (fun s7 s8 wx => ∃ b7 b8, s7 = .pointer (some ⟨b7, 0, none⟩) ∧ s8 = .pointer (some ⟨b8, 0, none⟩) ∧ BoxAt wx b7 (optV (reck 10 x y)) ∧ BoxAt wx b8 (optV (reck 11 x y)) ∧ Below w.heap.size w wx)
        case first =>
          go_wp2_with (first
            | (go_at_call 36; refine (clo_any _ _).mono ?_; rintro e w1 ⟨rfl, hb1⟩; replace hbel := below_step hbel hb1; clear hb1)
            | (go_at_call 15; refine (unhide HR _ _).mono ?_; rintro e w3 ⟨rfl, hb3⟩; replace hbel := below_step hbel hb3; clear hb3; rw [Val.open_]))
          go_meet
          exact ⟨w3.heap.size, w3.heap.size + 1, rfl, rfl, ⟨by simp [go_sem], by simp [go_sem], by simp [go_sem]⟩, ⟨by simp [go_sem], by simp [go_sem], by simp [go_sem]⟩, below_alloc (below_alloc hbel _) _⟩
        case rest =>
          obtain ⟨b7, b8, rfl, rfl, hq, hr, hbel⟩ := hcut
          clear HR
          by_cases hy0 : y = 0
          · subst hy0
            have e10 : optV (reck 10 x 0) = .null := by simp [reck, optV]
            have e11 : optV (reck 11 x 0) = .null := by simp [reck, optV]
            rw [e10] at hq
            rw [e11] at hr
            clear e10 e11 HX HY
            obtain ⟨q0, q1, q2⟩ := hq
            obtain ⟨r0, r1, r2⟩ := hr
            simp only [Val.null] at q0 q1 q2 r0 r1 r2
            go_wp2
            go_ret
            exact ⟨rfl, hbel⟩
          · have hy1 : (y == 0) = false := by simpa using hy0
            have e11 : optV (reck 11 x y) = .num (x.tmod y) := by simp [reck, optV, hy0]
            rw [e11] at hr
            clear e11
            obtain ⟨r0, r1, r2⟩ := hr
            simp only [Val.num] at r0 r1 r2
            by_cases hl : x = least ∧ y = -1
            · obtain ⟨rfl, rfl⟩ := hl
              have e10 : optV (reck 10 least (-1)) = .null := by
                have hf : fitsB (least.tdiv (-1)) = false := by decide +kernel
                simp only [reck, hf]
                rfl
              rw [e10] at hq
              have e0 : least.tmod (-1) = 0 := by decide +kernel
              rw [e0] at r1
              clear e10 e0 HX HY
              obtain ⟨q0, q1, q2⟩ := hq
              simp only [Val.null] at q0 q1 q2
              unfold least
              have hww : ((-9223372036854775808 : Int) == wrap64 9223372036854775808) = true := by decide +kernel
              go_wp2
              go_ret
              exact ⟨rfl, hbel⟩
            · have hf : fitsB (x.tdiv y) = true := by rw [tdiv_fits x y (unhide HX) hy0]; simp; exact Classical.not_and_iff_not_or_not.1 hl
              have e10 : optV (reck 10 x y) = .num (x.tdiv y) := by simp [reck, optV, hf, hy0]
              rw [e10] at hq
              have hbk := back_div x y (unhide HX) hf
              clear e10 hf hl
              obtain ⟨q0, q1, q2⟩ := hq
              simp only [Val.num] at q0 q1 q2
              by_cases ht : x.tmod y = 0
              · have ht1 : (x.tmod y != 0) = false := by simpa using ht
                generalize x.tdiv y = dv at *
                generalize x.tmod y = md at *
                clear ht HX HY
                go_wp2
                go_ret
                exact ⟨rfl, hbel⟩
              · have ht1 : (x.tmod y != 0) = true := by simpa using ht
                have ht2 := decide_eq_decide.1 (tmod_sign x y ht)
                generalize x.tdiv y = dv at *
                generalize x.tmod y = md at *
                by_cases hx0 : x < 0
                · have hm0 := ht2.2 hx0
                  have d1 : decide (x < 0) = true := by simpa using hx0
                  have d2 : decide (md < 0) = true := by simpa using hm0
                  clear ht ht2 HX HY
                  go_wp2
                  go_ret
                  exact ⟨rfl, hbel⟩
                · have hm0 : ¬ md < 0 := fun h => hx0 (ht2.1 h)
                  have d1 : decide (x < 0) = false := by simpa using hx0
                  have d2 : decide (md < 0) = false := by simpa using hm0
                  clear ht ht2 HX HY
                  go_wp2
                  go_ret
                  exact ⟨rfl, hbel⟩

end Go.Proofs.Ytbmeoabafmpacaa
