import Derived.Test.YtbdkpkpncmagoaaGreatAnyG
set_option linter.unusedSimpArgs false
set_option linter.unusedVariables false
namespace Go.Proofs.YtbdkpkpncmagoaaGreat
open Go.RowKit Go.Sort

/-- The least, of equal ones the first. -/
def minFrom (m : Val) (ys : List Val) : Val := ys.foldl (fun m x => if ordV x m < 0 then x else m) m
theorem minFrom_next {m y : Val} {ys : List Val} {j : Nat} (h : ys[j]? = some y) : minFrom m (ys.take (j + 1)) = if ordV y (minFrom m (ys.take j)) < 0 then y else minFrom m (ys.take j) := by
  obtain ⟨h1, rfl⟩ := List.getElem?_eq_some_iff.1 h
  unfold minFrom
  rw [List.take_succ_eq_append_getElem h1, List.foldl_append]
  rfl
theorem order_o (x y : Val) (w : World) : Calls Tryz.prog 73 #[.agg #[.int .i64 x.k, .int .i64 x.n, .string x.s], .agg #[.int .i64 y.k, .int .i64 y.n, .string y.s]] w fun e w' => e = .returned (.int .i64 (ordV x y)) ∧ Below w.heap.size w w' := order_any x y w
theorem box3_cells {w : World} {g : Nat} {y : Val} (h : w.rowIs g 42 3 (box3 y)) : w.cell? ⟨g, 0, none⟩ = some (.int .i64 y.k) ∧ w.cell? ⟨g, 1, none⟩ = some (.int .i64 y.n) ∧ w.cell? ⟨g, 2, none⟩ = some (.string y.s) ∧ w.frozen? ⟨g, 0, none⟩ = false ∧ w.frozen? ⟨g, 1, none⟩ = false ∧ w.frozen? ⟨g, 2, none⟩ = false :=
  ⟨h.cell (by omega), h.cell (by omega), h.cell (by omega), h.frozen 0, h.frozen 1, h.frozen 2⟩

set_option maxHeartbeats 4000000 in
set_option maxRecDepth 100000 in
theorem vmin_any (aa : Option Addr) (ca : Nat) (x0 : Val) (ys : List Val) (w : World) (hl : (x0 :: ys).length ≤ 1048576) (ha : RowAt w aa (x0 :: ys)) :
    Calls Tryz.prog 100 #[.slice aa (x0 :: ys).length ca, .func (.func 73) #[] #[]] w fun e w' => e = .returned (minFrom x0 ys).v ∧ Below w.heap.size w w' := by
  have HA := hide ha
  rcases ha with e | ⟨rb, ro, rfl, hc⟩
  · cases e
  obtain ⟨d0, d1, d2⟩ := hc 0 x0 rfl
  simp only [Nat.zero_mul, Nat.add_zero] at d0 d1 d2
  have hlt := World.block_lt_of_cell? _ _ d0
  have hlt' : rb < w.heap.size := hlt
  clear hc hlt
  have HYL : Hid ((x0 :: ys).length = ys.length + 1) := rfl
  have h1 : ¬ (((x0 :: ys).length : Int) < 1) := by simp only [List.length_cons]; omega
  have h0 : (0 : Int) < ((x0 :: ys).length : Int) := by simp only [List.length_cons]; omega
  generalize hN : (x0 :: ys).length = N at *
  clear hN
  go_enter Tryz.func100, Tryz.ntmps100
  go_wp2_with fail
  go_loopw [6] (fun s wr => ∃ (j : Nat) (m : Val), s = .int .i64 ((j : Int) + 1) ∧ j ≤ ys.length ∧ Hid (m = minFrom x0 (ys.take j)) ∧ wr.rowIs (w.heap.size + 1) 42 3 (box3 m) ∧ wr.rowIs w.heap.size 42 3 (box3 Val.null) ∧ Below w.heap.size w wr) (fun s _ => N - (intOf s).toNat)
  case atStart =>
    refine ⟨0, x0, rfl, Nat.zero_le _, rfl, ?_, ?_, ?_⟩
    · have := box3_alloc (w.alloc (.cells #[.int .i64 0, .int .i64 0, .string ⟨#[]⟩] 42)) x0
      simpa using this
    · exact (box3_alloc w Val.null).alloc _
    · exact below_alloc (below_alloc (Below.refl _ _) _) _
  case round =>
    obtain ⟨j, m, rfl, hj, HM, hrm, hr0, hb⟩ := hrel
    by_cases h8 : j < ys.length
    · have h9 : (j : Int) + 1 < (N : Int) := by have := unhide HYL; omega
      obtain ⟨y, hy⟩ : ∃ y, ys[j]? = some y := ⟨_, List.getElem?_eq_getElem h8⟩
      have HNX := hide (minFrom_next (m := x0) hy)
      rcases (unhide HA).later hb with e | ⟨rb', ro', eb, hc⟩
      · cases e
      injection eb with eb
      injection eb with eb1 eb2
      subst eb1 eb2
      obtain ⟨c0, c1, c2⟩ := hc (j + 1) y (by simpa using hy)
      obtain ⟨b0, b1, b2, f0, f1, f2⟩ := box3_cells hrm
      have HO := hide (order_o y m)
      have HRM := hide hrm
      have HR0 := hide hr0
      have HB := hide hb
      have hszr : w.heap.size + 1 < wr.heap.size := hrm.lt
      rw [← unhide HM] at HNX
      generalize ordV y m = O at *
      have ej : ((j : Int) + 1) = ((j + 1 : Nat) : Int) := by omega
      rw [ej] at h9 ⊢
      clear hc hy hrm hr0 hb ej
      go_upto_region 7 with fail
      go_cut [27] (fun s27 wx => s27 = .bool (decide (O < 0)) ∧ Below wr.heap.size wr wx)
      case first =>
        have k0 := cell_regrown c0
        have k1 := cell_regrown c1
        have k2 := cell_regrown c2
        have k3 := cell_regrown b0
        have k4 := cell_regrown b1
        have k5 := cell_regrown b2
        clear c0 c1 c2 b0 b1 b2
        refine wp_region_quiet_below (by kernel_rfl) (by kernel_rfl) ?_
        repeat (go_big_quiet_step (first
          | (go_at_call 73; exact Calls.regrown_of (unhide HO _))))
        refine wpQuiet_nil ?_
        intro w' hw'
        have hB : Below wr.heap.size wr w' := by obtain ⟨p, rfl⟩ := hw'; exact below_regrown _ _ _
        clear hw'
        go_wp2
        go_meet
        exact ⟨rfl, hB⟩
      case rest =>
        obtain ⟨rfl, hbx⟩ := hcut
        rename World => wx
        replace c0 := cell_later hbx c0
        replace c1 := cell_later hbx c1
        replace c2 := cell_later hbx c2
        have hrm := rowIs_later (unhide HRM) hbx
        have hr0 := rowIs_later (unhide HR0) hbx
        obtain ⟨b0, b1, b2, f0, f1, f2⟩ := box3_cells hrm
        have HRX := hide hrm
        have HR0X := hide hr0
        have HBX := hide (below_step (unhide HB) hbx)
        clear hbx hrm hr0
        by_cases hO : O < 0
        · have e1 : decide (O < 0) = true := decide_eq_true hO
          rw [if_pos hO] at HNX
          rw [e1]
          clear e1
          go_wp2
          go_roundw
          case rel =>
            refine ⟨j + 1, y, by go_num, by omega, (unhide HNX).symm, box3_set (unhide HRX), ?_, ?_⟩
            · exact (((unhide HR0X).setOther (by simp) _).setOther (by simp) _).setOther (by simp) _
            · exact (((unhide HBX).setCell (by simp) _).setCell (by simp) _).setCell (by simp) _
          case measure => have := unhide HYL; first | (simp [intOf]; omega) | (simp only [intOf]; omega)
        · have e1 : decide (O < 0) = false := decide_eq_false hO
          rw [if_neg hO] at HNX
          rw [e1]
          clear e1
          go_wp2
          go_roundw
          case rel => exact ⟨j + 1, m, by go_num, by omega, (unhide HNX).symm, unhide HRX, unhide HR0X, unhide HBX⟩
          case measure => have := unhide HYL; first | (simp [intOf]; omega) | (simp only [intOf]; omega)
    · have h9 : ¬ (j : Int) + 1 < (N : Int) := by have := unhide HYL; omega
      have hj' : j = ys.length := by omega
      have HM2 : Hid (m = minFrom x0 ys) := by show _ = _; rw [unhide HM, hj', List.take_length]
      obtain ⟨b0, b1, b2, _⟩ := box3_cells hrm
      obtain ⟨z0, z1, z2, y0, y1, y2⟩ := box3_cells hr0
      simp only [Val.null] at z0 z1 z2
      have HB := hide hb
      have hszr : w.heap.size + 1 < wr.heap.size := hrm.lt
      clear hrm hr0 hb hj'
      go_wp2
      refine bodyPost_ret (v := m.v) (by simp [results, Tryz.results100, go_sem, Val.v, *]) rfl ⟨by rw [unhide HM2], ?_⟩
      exact (((unhide HB).setCell (by simp) _).setCell (by simp) _).setCell (by simp) _
end Go.Proofs.YtbdkpkpncmagoaaGreat
set_option linter.unusedSimpArgs false
set_option linter.unusedVariables false
namespace Go.Proofs.YtbdkpkpncmagoaaGreat
open Go.RowKit Go.Sort

/-- Where a value is, or would be, among rising ones. -/
def Found (xs : List Val) (t : Val) (e : Ending) : Prop := ∃ (k : Nat) (f : Bool), e = .returned (.tuple #[.int .i64 (k : Int), .bool f]) ∧ k ≤ xs.length ∧ (∀ a x, a < k → xs[a]? = some x → ordV x t < 0) ∧ (∀ a x, k ≤ a → xs[a]? = some x → ¬ ordV x t < 0)

set_option maxHeartbeats 4000000 in
set_option maxRecDepth 100000 in
theorem vsearch_any (aa : Option Addr) (ca : Nat) (xs : List Val) (t : Val) (w : World) (hl : xs.length ≤ 1048576) (ha : RowAt w aa xs)
    (hmono : ∀ (a b : Nat) (x y : Val), a ≤ b → xs[a]? = some x → xs[b]? = some y → ordV y t < 0 → ordV x t < 0) :
    Calls Tryz.prog 98 #[.slice aa xs.length ca, t.v, .func (.func 73) #[] #[]] w fun e w' => Found xs t e ∧ Below w.heap.size w w' := by
  rw [t.open_]
  have HA := hide ha
  have HMO := hide hmono
  clear ha hmono
  go_enter Tryz.func98, Tryz.ntmps98
  go_wp2_with fail
  go_loopw [9, 10] (fun s9 s10 wr => ∃ i j : Nat, s9 = .int .i64 (i : Int) ∧ s10 = .int .i64 (j : Int) ∧ i ≤ j ∧ j ≤ xs.length ∧ Hid (∀ a x, a < i → xs[a]? = some x → ordV x t < 0) ∧ Hid (∀ a x, j ≤ a → xs[a]? = some x → ¬ ordV x t < 0) ∧ wr.rowIs w.heap.size 42 3 (box3 t) ∧ Below w.heap.size w wr) (fun s9 s10 _ => (intOf s10 - intOf s9).toNat)
  case atStart => exact ⟨0, xs.length, rfl, rfl, Nat.zero_le _, Nat.le_refl _, fun a x h => (by omega), fun a x h h2 => (by rw [List.getElem?_eq_none (by omega)] at h2; cases h2), box3_alloc w t, below_alloc (Below.refl _ _) _⟩
  case round =>
    obtain ⟨i, j, rfl, rfl, hij, hjn, HLO, HHI, hrt, hb⟩ := hrel
    by_cases h1 : i < j
    · have i1 : (i : Int) < (j : Int) := by omega
      obtain ⟨h, hh⟩ : ∃ h, h = (i + j) / 2 := ⟨_, rfl⟩
      have eh : ((i : Int) + (j : Int)) / 2 = (h : Int) := by omega
      have hhn : h < xs.length := by omega
      have i2 : (h : Int) < (xs.length : Int) := by omega
      have i3 : (i : Int) + (j : Int) ≤ 2097152 := by omega
      obtain ⟨x, hx⟩ : ∃ x, xs[h]? = some x := ⟨_, List.getElem?_eq_getElem hhn⟩
      rcases (unhide HA).later hb with e | ⟨rb, ro, rfl, hc⟩
      · rw [e] at hx; cases hx
      obtain ⟨c0, c1, c2⟩ := hc h x hx
      obtain ⟨b0, b1, b2, _, _, _⟩ := box3_cells hrt
      have HX := hide hx
      have HO := hide (order_o x t)
      have HRT := hide hrt
      have HB := hide hb
      have hihj : i ≤ h ∧ h < j := by omega
      have HHJ := hide hihj
      obtain ⟨O, hO⟩ : ∃ O, Hid (O = ordV x t) := ⟨_, rfl⟩
      rw [← unhide hO] at HO
      clear hc hx hrt hb hh hihj
      go_upto_region 5 with fail
      go_cut [31] (fun s31 wx => s31 = .bool (decide (O < 0)) ∧ Below wr.heap.size wr wx)
      case first =>
        have k0 := cell_regrown c0
        have k1 := cell_regrown c1
        have k2 := cell_regrown c2
        have k3 := cell_regrown b0
        have k4 := cell_regrown b1
        have k5 := cell_regrown b2
        clear c0 c1 c2 b0 b1 b2
        refine wp_region_quiet_below (by kernel_rfl) (by kernel_rfl) ?_
        repeat (go_big_quiet_step (first
          | (go_at_call 73; exact Calls.regrown_of (unhide HO _))))
        refine wpQuiet_nil ?_
        intro w' hw'
        have hB : Below wr.heap.size wr w' := by obtain ⟨p, rfl⟩ := hw'; exact below_regrown _ _ _
        clear hw'
        go_wp2
        go_meet
        exact ⟨rfl, hB⟩
      case rest =>
        obtain ⟨rfl, hbx⟩ := hcut
        rename World => wx
        have HRX := hide (rowIs_later (unhide HRT) hbx)
        have HBX := hide (below_step (unhide HB) hbx)
        clear hbx c0 c1 c2 b0 b1 b2
        by_cases hO2 : O < 0
        · have e1 : decide (O < 0) = true := decide_eq_true hO2
          rw [e1]
          have HLO2 : Hid (∀ a x, a < h + 1 → xs[a]? = some x → ordV x t < 0) := fun a y ha hy => unhide HMO a h y x (by omega) hy (unhide HX) (by rw [← unhide hO]; exact hO2)
          clear e1
          go_wp2
          go_roundw
          case rel => exact ⟨h + 1, j, by go_num, rfl, by have := unhide HHJ; omega, hjn, HLO2, HHI, unhide HRX, unhide HBX⟩
          case measure => have := unhide HHJ; first | (simp [intOf]; omega) | (simp only [intOf]; omega)
        · have e1 : decide (O < 0) = false := decide_eq_false hO2
          rw [e1]
          have HHI2 : Hid (∀ a x, h ≤ a → xs[a]? = some x → ¬ ordV x t < 0) := fun a y ha hy hlt => hO2 (by rw [unhide hO]; exact unhide HMO h a x y ha (unhide HX) hy hlt)
          clear e1
          go_wp2
          go_roundw
          case rel => exact ⟨i, h, rfl, by go_num, (unhide HHJ).1, by have := unhide HHJ; omega, HLO, HHI2, unhide HRX, unhide HBX⟩
          case measure => have := unhide HHJ; first | (simp [intOf]; omega) | (simp only [intOf]; omega)
    · have i1 : ¬ (i : Int) < (j : Int) := by omega
      have hij' : i = j := by omega
      have HHI2 : Hid (∀ a x, i ≤ a → xs[a]? = some x → ¬ ordV x t < 0) := by rw [hij']; exact HHI
      have hin : i ≤ xs.length := by omega
      obtain ⟨b0, b1, b2, _, _, _⟩ := box3_cells hrt
      have HB := hide hb
      have HRT := hide hrt
      by_cases h2 : i < xs.length
      · have i2 : (i : Int) < (xs.length : Int) := by omega
        obtain ⟨x, hx⟩ : ∃ x, xs[i]? = some x := ⟨_, List.getElem?_eq_getElem h2⟩
        rcases (unhide HA).later hb with e | ⟨rb, ro, rfl, hc⟩
        · rw [e] at hx; cases hx
        obtain ⟨c0, c1, c2⟩ := hc i x hx
        have HO := hide (order_o x t)
        generalize ordV x t = O at HO
        clear hc hx hrt hb hij' HHI
        go_upto_region 8 with fail
        have k0 := cell_regrown c0
        have k1 := cell_regrown c1
        have k2 := cell_regrown c2
        have k3 := cell_regrown b0
        have k4 := cell_regrown b1
        have k5 := cell_regrown b2
        clear c0 c1 c2 b0 b1 b2
        refine wp_region_quiet_below (by kernel_rfl) (by kernel_rfl) ?_
        repeat (go_big_quiet_step (first
          | (go_at_call 73; exact Calls.regrown_of (unhide HO _))))
        refine wpQuiet_nil ?_
        intro w' hw'
        have hB : Below wr.heap.size wr w' := by obtain ⟨p, rfl⟩ := hw'; exact below_regrown _ _ _
        clear hw'
        go_wp2
        refine bodyPost_ret (v := .tuple #[.int .i64 (i : Int), .bool (O == 0)]) (by simp [results, Tryz.results98, go_sem]) rfl ⟨⟨i, _, rfl, hin, unhide HLO, fun a x h1 h2 => by have := unhide HHI2 a x h1 h2; omega⟩, below_step (unhide HB) hB⟩
      · have i2 : ¬ (i : Int) < (xs.length : Int) := by omega
        clear hrt hb hij' HHI
        go_upto_region 8 with fail
        refine wp_region_quiet_below (by kernel_rfl) (by kernel_rfl) ?_
        repeat (go_big_quiet_step (first
          | (go_at_call 73; exact Calls.regrown_of (order_o t t _))))
        refine wpQuiet_nil ?_
        intro w' hw'
        have hB : Below wr.heap.size wr w' := by obtain ⟨p, rfl⟩ := hw'; exact below_regrown _ _ _
        clear hw'
        go_wp2
        refine bodyPost_ret (v := .tuple #[.int .i64 (i : Int), .bool false]) (by simp [results, Tryz.results98, go_sem]) rfl ⟨⟨i, _, rfl, hin, unhide HLO, fun a x h1 h2 => by have := unhide HHI2 a x h1 h2; omega⟩, below_step (unhide HB) hB⟩
end Go.Proofs.YtbdkpkpncmagoaaGreat
