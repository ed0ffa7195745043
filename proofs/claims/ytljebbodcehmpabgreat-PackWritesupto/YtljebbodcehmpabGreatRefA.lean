import Derived.Test.YtljebbodcehmpabGreatUnlA
set_option linter.unusedSimpArgs false
set_option linter.unusedVariables false
namespace Go.Proofs.YtljebbodcehmpabGreat
open Go.RowKit Go.Sort

set_option maxHeartbeats 2000000 in
set_option maxRecDepth 100000 in
theorem atleast_any (Wd : List Val) (x : Val) (a8 : Option Addr) (c8 B8 B3 k : Nat) (W : World) (hk : k < Wd.length) (hl : Wd.length ≤ 1048576) (hr : RowAt W a8 Wd) (hb : W.cell? ⟨B8, 0, none⟩ = some (.slice a8 Wd.length c8)) (hx : BoxAt W B3 x) :
    Calls Tryz.prog 35 #[.int .i64 k, .pointer (some ⟨B8, 0, none⟩), .pointer (some ⟨B3, 0, none⟩)] W fun e w' => e = .returned (.bool (!ltV (atL Wd k) x)) ∧ Below W.heap.size W w' := by
  rcases hr with e | ⟨b, off, rfl, hc⟩
  · rw [e] at hk; simp at hk
  obtain ⟨c0, c1, c2⟩ := hc k _ (atL_some hk)
  obtain ⟨d0, d1, d2⟩ := hx
  have HO := hide (fun W' => rorder_any (atL Wd k) x W')
  rw [Val.open_, Val.open_] at HO
  have e0 : (!ltV (atL Wd k) x) = decide (0 ≤ ordV (atL Wd k) x) := by
    unfold ltV
    by_cases h : ordV (atL Wd k) x < 0
    · have : ¬ 0 ≤ ordV (atL Wd k) x := by omega
      simp [h]
    · have : 0 ≤ ordV (atL Wd k) x := by omega
      simp [h, this]
  rw [e0]
  clear e0
  generalize ordV (atL Wd k) x = O at *
  generalize atL Wd k = y at *
  have i1 : (k : Int) < (Wd.length : Int) := by omega
  clear hc
  go_enter Tryz.func35, Tryz.ntmps35
  go_upto_region 1 with fail
  have k0 := cell_regrown c0
  have k1 := cell_regrown c1
  have k2 := cell_regrown c2
  have k3 := cell_regrown d0
  have k4 := cell_regrown d1
  have k5 := cell_regrown d2
  have k6 := cell_regrown hb
  clear c0 c1 c2 d0 d1 d2 hb
  refine wp_region_quiet_below (by kernel_rfl) (by kernel_rfl) ?_
  repeat (go_big_quiet_step (first
    | (go_at_call 33; exact Calls.regrown_of (unhide HO _))))
  refine wpQuiet_nil ?_
  intro w' hw'
  have hB : Below W.heap.size W w' := by obtain ⟨p, rfl⟩ := hw'; exact below_regrown _ _ _
  clear hw'
  go_wp2
  go_ret
  exact ⟨rfl, hB⟩

set_option maxHeartbeats 4000000 in
set_option maxRecDepth 100000 in
theorem search_any (Wd : List Val) (x : Val) (a8 : Option Addr) (c8 B8 B3 : Nat) (w : World) (hl : Wd.length ≤ 1048576) (hri : Rises Wd) (hr : RowAt w a8 Wd) (hb : w.cell? ⟨B8, 0, none⟩ = some (.slice a8 Wd.length c8)) (hx : BoxAt w B3 x) :
    Calls Tryz.prog 34 #[.int .i64 Wd.length, .func (.func 35) #[] #[.pointer (some ⟨B8, 0, none⟩), .pointer (some ⟨B3, 0, none⟩)]] w fun e w' => e = .returned (.int .i64 (posN Wd x : Int)) ∧ Below w.heap.size w w' := by
  have HC : Hid (∀ W k, Below w.heap.size w W → k < Wd.length → Calls Tryz.prog 35 #[.int .i64 (k : Nat), .pointer (some ⟨B8, 0, none⟩), .pointer (some ⟨B3, 0, none⟩)] W fun e w' => e = .returned (.bool (!ltV (atL Wd k) x)) ∧ Below W.heap.size W w') := fun W k hW hk => atleast_any Wd x a8 c8 B8 B3 k W hk hl (hr.later hW) (cell_later hW hb) (hx.later hW)
  have HP : Hid (∀ k, k ≤ Wd.length → (∀ a y, a < k → Wd[a]? = some y → ordV y x < 0) → (∀ a y, k ≤ a → Wd[a]? = some y → ¬ ordV y x < 0) → posN Wd x = k) := fun k h1 h2 h3 => posN_eq h1 h2 h3
  have HM := hide (hri.mono x)
  generalize posN Wd x = R at *
  clear hr hb hx hri
  go_enter Tryz.func34, Tryz.ntmps34
  go_wp2_with fail
  go_loopw [5, 6] (fun s5 s6 wr => ∃ i j : Nat, s5 = .int .i64 (i : Int) ∧ s6 = .int .i64 (j : Int) ∧ i ≤ j ∧ j ≤ Wd.length ∧ Hid (∀ a y, a < i → Wd[a]? = some y → ordV y x < 0) ∧ Hid (∀ a y, j ≤ a → Wd[a]? = some y → 0 ≤ ordV y x) ∧ Below w.heap.size w wr) (fun s5 s6 _ => (intOf s6 - intOf s5).toNat)
  case atStart => exact ⟨0, Wd.length, rfl, rfl, Nat.zero_le _, Nat.le_refl _, fun a y h => (by omega), fun a y h h2 => (by rw [List.getElem?_eq_none (by omega)] at h2; cases h2), Below.refl _ _⟩
  case round =>
    obtain ⟨i, j, rfl, rfl, hij, hjn, HLO, HHI, hb⟩ := hrel
    by_cases h1 : i < j
    · have i1 : (i : Int) < (j : Int) := by omega
      obtain ⟨h, hh⟩ : ∃ h, h = (i + j) / 2 := ⟨_, rfl⟩
      have eh : ((i : Int) + (j : Int)) / 2 = (h : Int) := by omega
      have i3 : (i : Int) + (j : Int) ≤ 2097152 := by omega
      have hhj : i ≤ h ∧ h < j := by omega
      have HHJ := hide hhj
      have HL := hide (unhide HC wr h hb (by omega))
      have HB := hide hb
      have hx := atL_some (show h < Wd.length by omega)
      have HX := hide hx
      clear hh hhj hb hx
      cases hlt : ltV (atL Wd h) x
      · rw [hlt] at HL
        have HHI2 : Hid (∀ a y, h ≤ a → Wd[a]? = some y → 0 ≤ ordV y x) := fun a y ha hy => by
          have h3 := ltV_f hlt
          rcases Int.lt_or_le (ordV y x) 0 with h4 | h4
          · exact absurd (unhide HM h a _ y ha (unhide HX) hy h4) h3
          · exact h4
        clear hlt
        go_wp2_with (go_at_call 35; refine (unhide HL).mono ?_; rintro e w2 ⟨rfl, hb2⟩; replace hb2 := hide hb2)
        go_roundw
        case rel => exact ⟨i, h, rfl, by go_num, (unhide HHJ).1, by have := unhide HHJ; omega, HLO, HHI2, below_step (unhide HB) (unhide hb2)⟩
        case measure => have := unhide HHJ; first | (simp [intOf]; omega) | (simp only [intOf]; omega)
      · rw [hlt] at HL
        have HLO2 : Hid (∀ a y, a < h + 1 → Wd[a]? = some y → ordV y x < 0) := fun a y ha hy => unhide HM a h y _ (by omega) hy (unhide HX) (ltV_t hlt)
        clear hlt
        go_wp2_with (go_at_call 35; refine (unhide HL).mono ?_; rintro e w2 ⟨rfl, hb2⟩; replace hb2 := hide hb2)
        go_roundw
        case rel => exact ⟨h + 1, j, by go_num, rfl, by have := unhide HHJ; omega, hjn, HLO2, HHI, below_step (unhide HB) (unhide hb2)⟩
        case measure => have := unhide HHJ; first | (simp [intOf]; omega) | (simp only [intOf]; omega)
    · have i1 : ¬ (i : Int) < (j : Int) := by omega
      have hij' : i = j := by omega
      have HE : Hid (R = i) := by
        show _ = _
        exact unhide HP i (by omega) (unhide HLO) (fun a y h2 h3 => unhide HHI a y (by omega) h3)
      have HB := hide hb
      clear hb hij'
      go_wp2
      go_ret
      exact ⟨by rw [unhide HE]; rfl, unhide HB⟩

theorem rtruth_yes (w : World) : Calls Tryz.prog 30 #[.bool true] w fun e w' => e = .returned (.agg #[.int .i64 1, .int .i64 1, .string ⟨#[]⟩]) ∧ Below w.heap.size w w' := by
  go_enter Tryz.func30, Tryz.ntmps30
  go_wp2_with (go_at_call 43; refine (rnum_any _ _).mono ?_; rintro e w1 ⟨rfl, hb1⟩; obtain ⟨hc1, hf1⟩ := bcell hb1; rw [Val.open_])
  refine bodyPost_ret (v := .agg #[.int .i64 1, .int .i64 1, .string ⟨#[]⟩]) (by simp [results, Tryz.results30, go_sem, Val.v, Val.num, hc1, hf1]) rfl ⟨rfl, ?_⟩
  exact (((below_step (below_alloc (Below.refl _ w) _) hb1).setCell (by simp) _).setCell (by simp) _).setCell (by simp) _
theorem rtruth_no (w : World) : Calls Tryz.prog 30 #[.bool false] w fun e w' => e = .returned (.agg #[.int .i64 1, .int .i64 0, .string ⟨#[]⟩]) ∧ Below w.heap.size w w' := by
  go_enter Tryz.func30, Tryz.ntmps30
  go_wp2_with (go_at_call 43; refine (rnum_any _ _).mono ?_; rintro e w1 ⟨rfl, hb1⟩; obtain ⟨hc1, hf1⟩ := bcell hb1; rw [Val.open_])
  refine bodyPost_ret (v := .agg #[.int .i64 1, .int .i64 0, .string ⟨#[]⟩]) (by simp [results, Tryz.results30, go_sem, Val.v, Val.num, hc1, hf1]) rfl ⟨rfl, ?_⟩
  exact (((below_step (below_alloc (Below.refl _ w) _) hb1).setCell (by simp) _).setCell (by simp) _).setCell (by simp) _
end Go.Proofs.YtljebbodcehmpabGreat
