import Derived.Test.YtcpndojkfngioaaGreatPlS
import Derived.Test.YtcpndojkfngioaaGreatRmK
set_option linter.unusedSimpArgs false
set_option linter.unusedVariables false
namespace Go.Proofs.YtcpndojkfngioaaGreat
open Go.RowKit Go.Sort

/-- What the document's window asks. -/
def windB (p : Pl) : Bool := colsB p.cols && colsB (p.keys.map Prod.fst) && winB p.fn p.col p.n
set_option maxHeartbeats 8000000 in
set_option maxRecDepth 100000 in
/-- tallyref.window (53). -/
theorem window_any (p : Pl) (hf : p.fin) (m : Pm) (w : World) (ho : Own4 w p m) : Calls Tryz.prog 53 #[p.val m] w fun r w' => r = .returned (.bool (windB p)) ∧ Below w.heap.size w w' := by
  obtain ⟨⟨f1, f2, f3, f4, f5, f6, f7, fc, fk, fa⟩, _, _⟩ := Pl.fin_open hf
  obtain ⟨R, hR⟩ : ∃ R, R = windB p := ⟨_, rfl⟩
  rw [← hR]
  unfold windB colsB at hR
  have hb0 := below_alloc (Below.refl _ w) (p.box m)
  have HE := hide (Elv.new w p m)
  have HB := hide hb0
  have HL := hide (fun (W : World) (hW : Below w.heap.size w W) => low_any p.cols m.aC m.cC W (by omega) (ho.c.later hW))
  have HU := hide (fun (W : World) (hW : Below w.heap.size w W) => unlikeR_any p.cols m.aC m.cC W (by omega) ho.n (ho.c.later hW))
  have HK := hide (fun (W : World) (hW : Below w.heap.size w W) => keyCols_any p.keys m.aK m.cK W f4 (ho.k.later hW))
  have HKL : Hid ((p.keys.map Prod.fst).length ≤ 1048576) := by show _ ≤ _; rw [List.length_map]; omega
  have HR := hide hR
  rw [Pl.val_open]
  unfold Pl.box at HE HB
  clear hR hb0 ho hf fc fk fa
  generalize p.keys.map Prod.fst = kc at *
  obtain ⟨wa, hwa⟩ : ∃ wa, wa = w.alloc (.cells #[.int .i64 p.op, .string p.tab, .slice m.aE p.ex.length m.cE, .slice m.aC p.cols.length m.cC, .slice m.aK p.keys.length m.cK, .slice m.aA p.aggs.length m.cA, .int .i64 p.fn, .int .i64 p.col, .int .i64 p.n, .int .i64 p.off, .slice m.aP p.args.length m.cP] 28) := ⟨_, rfl⟩
  rw [← hwa] at HE HB
  have HWA := hide hwa
  have hEl := unhide HE
  have c3 := hEl.c3
  simp only [Nat.zero_add] at c3
  clear hwa hEl
  cases hl : p.cols.any (fun x => decide (x < 0))
  case true =>
    rw [hl] at HL HR
    obtain rfl : R = false := unhide HR
    clear hl
    go_enter Tryz.func53, Tryz.ntmps53
    go_upto_region 1 with fail
    rw [← unhide HWA]
    go_wp2_with (go_at_call 50; refine (unhide HL _ (unhide HB)).mono ?_; rintro r w1 ⟨rfl, hb1⟩)
    go_ret
    exact ⟨rfl, below_step (unhide HB) hb1⟩
  rw [hl] at HL HR
  clear hl
  cases hu : decide p.cols.Nodup
  case false =>
    rw [hu] at HU HR
    obtain rfl : R = false := unhide HR
    clear hu
    go_enter Tryz.func53, Tryz.ntmps53
    go_upto_region 1 with fail
    rw [← unhide HWA]
    go_wp2_with (first
      | (go_at_call 50; refine (unhide HL _ (unhide HB)).mono ?_; rintro r w1 ⟨rfl, hb1⟩; have e3 := ((unhide HE).later hb1).c3; simp only [Nat.zero_add] at e3)
      | (go_at_call 51; refine (unhide HU _ (below_step (unhide HB) hb1)).mono ?_; rintro r w2 ⟨rfl, hb2⟩))
    go_ret
    exact ⟨rfl, below_step (below_step (unhide HB) hb1) hb2⟩
  rw [hu] at HU HR
  clear hu
  have HR2 : Hid (R = (!kc.any (fun x => decide (x < 0)) && decide kc.Nodup && winB p.fn p.col p.n)) := by have := unhide HR; show _ = _; simpa using this
  clear HR
  cases hlk : kc.any (fun x => decide (x < 0))
  case true =>
    rw [hlk] at HR2
    obtain rfl : R = false := unhide HR2
    go_enter Tryz.func53, Tryz.ntmps53
    go_upto_region 1 with fail
    rw [← unhide HWA]
    go_wp2_with (first
      | (go_at_call 50; refine (unhide HL3).mono ?_; rintro r w4 ⟨rfl, hb4⟩; have hB4 := below_step hB3 hb4; have k4 := ((unhide HE).later (below_step (below_step (below_step hb1 hb2) hb3) hb4)).c4; simp only [Nat.zero_add] at k4)
      | (go_at_call 50; refine (unhide HL _ (unhide HB)).mono ?_; rintro r w1 ⟨rfl, hb1⟩; have e3 := ((unhide HE).later hb1).c3; simp only [Nat.zero_add] at e3)
      | (go_at_call 51; refine (unhide HU _ (below_step (unhide HB) hb1)).mono ?_; rintro r w2 ⟨rfl, hb2⟩; have g4 := ((unhide HE).later (below_step hb1 hb2)).c4; simp only [Nat.zero_add] at g4; have hB2 := below_step (below_step (unhide HB) hb1) hb2)
      | (go_at_call 38; refine (unhide HK _ hB2).mono ?_; rintro r w3 ⟨a3, c3x, rfl, hO3, hb3⟩; have HL3 := hide (low_any kc a3 c3x w3 (by have := unhide HKL; omega) hO3.ints); rw [hlk] at HL3; have hB3 := below_step hB2 hb3))
    go_ret
    exact ⟨rfl, hB4⟩
  rw [hlk] at HR2
  cases huk : decide kc.Nodup
  case false =>
    rw [huk] at HR2
    obtain rfl : R = false := unhide HR2
    go_enter Tryz.func53, Tryz.ntmps53
    go_upto_region 1 with fail
    rw [← unhide HWA]
    go_wp2_with (first
      | (go_at_call 51; refine (unhide HU5).mono ?_; rintro r w6 ⟨rfl, hb6⟩; have hB6 := below_step hB5 hb6; have hEl6 := (unhide HE).later (below_step (below_step (below_step (below_step (below_step hb1 hb2) hb3) hb4) hb5) hb6); have k6 := hEl6.c6; have k7 := hEl6.c7; have k8 := hEl6.c8; simp only [Nat.zero_add] at k6 k7 k8; clear hEl6)
      | (go_at_call 50; refine (unhide HL3).mono ?_; rintro r w4 ⟨rfl, hb4⟩; have hB4 := below_step hB3 hb4; have k4 := ((unhide HE).later (below_step (below_step (below_step hb1 hb2) hb3) hb4)).c4; simp only [Nat.zero_add] at k4)
      | (go_at_call 50; refine (unhide HL _ (unhide HB)).mono ?_; rintro r w1 ⟨rfl, hb1⟩; have e3 := ((unhide HE).later hb1).c3; simp only [Nat.zero_add] at e3)
      | (go_at_call 51; refine (unhide HU _ (below_step (unhide HB) hb1)).mono ?_; rintro r w2 ⟨rfl, hb2⟩; have g4 := ((unhide HE).later (below_step hb1 hb2)).c4; simp only [Nat.zero_add] at g4; have hB2 := below_step (below_step (unhide HB) hb1) hb2)
      | (go_at_call 38; refine (unhide HK _ hB4).mono ?_; rintro r w5 ⟨a5, c5x, rfl, hO5, hb5⟩; have HU5 := hide (unlikeR_any kc a5 c5x w5 (by have := unhide HKL; omega) hO5.cap_le hO5.ints); rw [huk] at HU5; have hB5 := below_step hB4 hb5)
      | (go_at_call 38; refine (unhide HK _ hB2).mono ?_; rintro r w3 ⟨a3, c3x, rfl, hO3, hb3⟩; have HL3 := hide (low_any kc a3 c3x w3 (by have := unhide HKL; omega) hO3.ints); rw [hlk] at HL3; have hB3 := below_step hB2 hb3))
    go_ret
    exact ⟨rfl, hB6⟩
  rw [huk] at HR2
  have HR3 : Hid (R = winB p.fn p.col p.n) := by have := unhide HR2; show _ = _; simpa using this
  clear HR2
  by_cases hc0 : p.col < 0
  · obtain rfl : R = false := by
      rw [unhide HR3]; unfold winB
      have e1 : (p.col == 0) = false := by simp; omega
      have e2 : decide (0 ≤ p.col) = false := decide_eq_false (by omega)
      rw [e1, e2]
      split
      · rfl
      · split
        · rfl
        · split <;> rfl
    go_enter Tryz.func53, Tryz.ntmps53
    go_upto_region 1 with fail
    rw [← unhide HWA]
    go_wp2_with (first
      | (go_at_call 51; refine (unhide HU5).mono ?_; rintro r w6 ⟨rfl, hb6⟩; have hB6 := below_step hB5 hb6; have hEl6 := (unhide HE).later (below_step (below_step (below_step (below_step (below_step hb1 hb2) hb3) hb4) hb5) hb6); have k6 := hEl6.c6; have k7 := hEl6.c7; have k8 := hEl6.c8; simp only [Nat.zero_add] at k6 k7 k8; clear hEl6)
      | (go_at_call 50; refine (unhide HL3).mono ?_; rintro r w4 ⟨rfl, hb4⟩; have hB4 := below_step hB3 hb4; have k4 := ((unhide HE).later (below_step (below_step (below_step hb1 hb2) hb3) hb4)).c4; simp only [Nat.zero_add] at k4)
      | (go_at_call 50; refine (unhide HL _ (unhide HB)).mono ?_; rintro r w1 ⟨rfl, hb1⟩; have e3 := ((unhide HE).later hb1).c3; simp only [Nat.zero_add] at e3)
      | (go_at_call 51; refine (unhide HU _ (below_step (unhide HB) hb1)).mono ?_; rintro r w2 ⟨rfl, hb2⟩; have g4 := ((unhide HE).later (below_step hb1 hb2)).c4; simp only [Nat.zero_add] at g4; have hB2 := below_step (below_step (unhide HB) hb1) hb2)
      | (go_at_call 38; refine (unhide HK _ hB4).mono ?_; rintro r w5 ⟨a5, c5x, rfl, hO5, hb5⟩; have HU5 := hide (unlikeR_any kc a5 c5x w5 (by have := unhide HKL; omega) hO5.cap_le hO5.ints); rw [huk] at HU5; have hB5 := below_step hB4 hb5)
      | (go_at_call 38; refine (unhide HK _ hB2).mono ?_; rintro r w3 ⟨a3, c3x, rfl, hO3, hb3⟩; have HL3 := hide (low_any kc a3 c3x w3 (by have := unhide HKL; omega) hO3.ints); rw [hlk] at HL3; have hB3 := below_step hB2 hb3))
    go_ret
    exact ⟨rfl, hB6⟩
  by_cases h1 : p.fn = 1
  · rw [h1] at HR3 HWA
    have HR4 : Hid (R = (p.col == 0 && p.n == 0)) := unhide HR3
    rw [h1]
    cases hz : (p.col == 0)
    · rw [hz] at HR4
      obtain rfl : R = false := unhide HR4
      go_enter Tryz.func53, Tryz.ntmps53
      go_upto_region 1 with fail
      rw [← unhide HWA]
      go_wp2_with (first
        | (go_at_call 51; refine (unhide HU5).mono ?_; rintro r w6 ⟨rfl, hb6⟩; have hB6 := below_step hB5 hb6; have hEl6 := (unhide HE).later (below_step (below_step (below_step (below_step (below_step hb1 hb2) hb3) hb4) hb5) hb6); have k6 := hEl6.c6; rw [h1] at k6; have k7 := hEl6.c7; have k8 := hEl6.c8; simp only [Nat.zero_add] at k6 k7 k8; clear hEl6)
        | (go_at_call 50; refine (unhide HL3).mono ?_; rintro r w4 ⟨rfl, hb4⟩; have hB4 := below_step hB3 hb4; have k4 := ((unhide HE).later (below_step (below_step (below_step hb1 hb2) hb3) hb4)).c4; simp only [Nat.zero_add] at k4)
        | (go_at_call 50; refine (unhide HL _ (unhide HB)).mono ?_; rintro r w1 ⟨rfl, hb1⟩; have e3 := ((unhide HE).later hb1).c3; simp only [Nat.zero_add] at e3)
        | (go_at_call 51; refine (unhide HU _ (below_step (unhide HB) hb1)).mono ?_; rintro r w2 ⟨rfl, hb2⟩; have g4 := ((unhide HE).later (below_step hb1 hb2)).c4; simp only [Nat.zero_add] at g4; have hB2 := below_step (below_step (unhide HB) hb1) hb2)
        | (go_at_call 38; refine (unhide HK _ hB4).mono ?_; rintro r w5 ⟨a5, c5x, rfl, hO5, hb5⟩; have HU5 := hide (unlikeR_any kc a5 c5x w5 (by have := unhide HKL; omega) hO5.cap_le hO5.ints); rw [huk] at HU5; have hB5 := below_step hB4 hb5)
        | (go_at_call 38; refine (unhide HK _ hB2).mono ?_; rintro r w3 ⟨a3, c3x, rfl, hO3, hb3⟩; have HL3 := hide (low_any kc a3 c3x w3 (by have := unhide HKL; omega) hO3.ints); rw [hlk] at HL3; have hB3 := below_step hB2 hb3))
      go_ret
      exact ⟨rfl, hB6⟩
    · rw [hz] at HR4
      obtain rfl : R = (p.n == 0) := unhide HR4
      go_enter Tryz.func53, Tryz.ntmps53
      go_upto_region 1 with fail
      rw [← unhide HWA]
      go_wp2_with (first
        | (go_at_call 51; refine (unhide HU5).mono ?_; rintro r w6 ⟨rfl, hb6⟩; have hB6 := below_step hB5 hb6; have hEl6 := (unhide HE).later (below_step (below_step (below_step (below_step (below_step hb1 hb2) hb3) hb4) hb5) hb6); have k6 := hEl6.c6; rw [h1] at k6; have k7 := hEl6.c7; have k8 := hEl6.c8; simp only [Nat.zero_add] at k6 k7 k8; clear hEl6)
        | (go_at_call 50; refine (unhide HL3).mono ?_; rintro r w4 ⟨rfl, hb4⟩; have hB4 := below_step hB3 hb4; have k4 := ((unhide HE).later (below_step (below_step (below_step hb1 hb2) hb3) hb4)).c4; simp only [Nat.zero_add] at k4)
        | (go_at_call 50; refine (unhide HL _ (unhide HB)).mono ?_; rintro r w1 ⟨rfl, hb1⟩; have e3 := ((unhide HE).later hb1).c3; simp only [Nat.zero_add] at e3)
        | (go_at_call 51; refine (unhide HU _ (below_step (unhide HB) hb1)).mono ?_; rintro r w2 ⟨rfl, hb2⟩; have g4 := ((unhide HE).later (below_step hb1 hb2)).c4; simp only [Nat.zero_add] at g4; have hB2 := below_step (below_step (unhide HB) hb1) hb2)
        | (go_at_call 38; refine (unhide HK _ hB4).mono ?_; rintro r w5 ⟨a5, c5x, rfl, hO5, hb5⟩; have HU5 := hide (unlikeR_any kc a5 c5x w5 (by have := unhide HKL; omega) hO5.cap_le hO5.ints); rw [huk] at HU5; have hB5 := below_step hB4 hb5)
        | (go_at_call 38; refine (unhide HK _ hB2).mono ?_; rintro r w3 ⟨a3, c3x, rfl, hO3, hb3⟩; have HL3 := hide (low_any kc a3 c3x w3 (by have := unhide HKL; omega) hO3.ints); rw [hlk] at HL3; have hB3 := below_step hB2 hb3))
      go_ret
      exact ⟨rfl, hB6⟩
  by_cases h2 : p.fn = 2
  · rw [h2] at HR3 HWA
    have HR4 : Hid (R = (p.col == 0 && p.n == 0)) := unhide HR3
    rw [h2]
    cases hz : (p.col == 0)
    · rw [hz] at HR4
      obtain rfl : R = false := unhide HR4
      go_enter Tryz.func53, Tryz.ntmps53
      go_upto_region 1 with fail
      rw [← unhide HWA]
      go_wp2_with (first
        | (go_at_call 51; refine (unhide HU5).mono ?_; rintro r w6 ⟨rfl, hb6⟩; have hB6 := below_step hB5 hb6; have hEl6 := (unhide HE).later (below_step (below_step (below_step (below_step (below_step hb1 hb2) hb3) hb4) hb5) hb6); have k6 := hEl6.c6; rw [h2] at k6; have k7 := hEl6.c7; have k8 := hEl6.c8; simp only [Nat.zero_add] at k6 k7 k8; clear hEl6)
        | (go_at_call 50; refine (unhide HL3).mono ?_; rintro r w4 ⟨rfl, hb4⟩; have hB4 := below_step hB3 hb4; have k4 := ((unhide HE).later (below_step (below_step (below_step hb1 hb2) hb3) hb4)).c4; simp only [Nat.zero_add] at k4)
        | (go_at_call 50; refine (unhide HL _ (unhide HB)).mono ?_; rintro r w1 ⟨rfl, hb1⟩; have e3 := ((unhide HE).later hb1).c3; simp only [Nat.zero_add] at e3)
        | (go_at_call 51; refine (unhide HU _ (below_step (unhide HB) hb1)).mono ?_; rintro r w2 ⟨rfl, hb2⟩; have g4 := ((unhide HE).later (below_step hb1 hb2)).c4; simp only [Nat.zero_add] at g4; have hB2 := below_step (below_step (unhide HB) hb1) hb2)
        | (go_at_call 38; refine (unhide HK _ hB4).mono ?_; rintro r w5 ⟨a5, c5x, rfl, hO5, hb5⟩; have HU5 := hide (unlikeR_any kc a5 c5x w5 (by have := unhide HKL; omega) hO5.cap_le hO5.ints); rw [huk] at HU5; have hB5 := below_step hB4 hb5)
        | (go_at_call 38; refine (unhide HK _ hB2).mono ?_; rintro r w3 ⟨a3, c3x, rfl, hO3, hb3⟩; have HL3 := hide (low_any kc a3 c3x w3 (by have := unhide HKL; omega) hO3.ints); rw [hlk] at HL3; have hB3 := below_step hB2 hb3))
      go_ret
      exact ⟨rfl, hB6⟩
    · rw [hz] at HR4
      obtain rfl : R = (p.n == 0) := unhide HR4
      go_enter Tryz.func53, Tryz.ntmps53
      go_upto_region 1 with fail
      rw [← unhide HWA]
      go_wp2_with (first
        | (go_at_call 51; refine (unhide HU5).mono ?_; rintro r w6 ⟨rfl, hb6⟩; have hB6 := below_step hB5 hb6; have hEl6 := (unhide HE).later (below_step (below_step (below_step (below_step (below_step hb1 hb2) hb3) hb4) hb5) hb6); have k6 := hEl6.c6; rw [h2] at k6; have k7 := hEl6.c7; have k8 := hEl6.c8; simp only [Nat.zero_add] at k6 k7 k8; clear hEl6)
        | (go_at_call 50; refine (unhide HL3).mono ?_; rintro r w4 ⟨rfl, hb4⟩; have hB4 := below_step hB3 hb4; have k4 := ((unhide HE).later (below_step (below_step (below_step hb1 hb2) hb3) hb4)).c4; simp only [Nat.zero_add] at k4)
        | (go_at_call 50; refine (unhide HL _ (unhide HB)).mono ?_; rintro r w1 ⟨rfl, hb1⟩; have e3 := ((unhide HE).later hb1).c3; simp only [Nat.zero_add] at e3)
        | (go_at_call 51; refine (unhide HU _ (below_step (unhide HB) hb1)).mono ?_; rintro r w2 ⟨rfl, hb2⟩; have g4 := ((unhide HE).later (below_step hb1 hb2)).c4; simp only [Nat.zero_add] at g4; have hB2 := below_step (below_step (unhide HB) hb1) hb2)
        | (go_at_call 38; refine (unhide HK _ hB4).mono ?_; rintro r w5 ⟨a5, c5x, rfl, hO5, hb5⟩; have HU5 := hide (unlikeR_any kc a5 c5x w5 (by have := unhide HKL; omega) hO5.cap_le hO5.ints); rw [huk] at HU5; have hB5 := below_step hB4 hb5)
        | (go_at_call 38; refine (unhide HK _ hB2).mono ?_; rintro r w3 ⟨a3, c3x, rfl, hO3, hb3⟩; have HL3 := hide (low_any kc a3 c3x w3 (by have := unhide HKL; omega) hO3.ints); rw [hlk] at HL3; have hB3 := below_step hB2 hb3))
      go_ret
      exact ⟨rfl, hB6⟩
  by_cases h3 : p.fn = 3
  · rw [h3] at HR3 HWA
    have HR4 : Hid (R = (p.col == 0 && p.n == 0)) := unhide HR3
    rw [h3]
    cases hz : (p.col == 0)
    · rw [hz] at HR4
      obtain rfl : R = false := unhide HR4
      go_enter Tryz.func53, Tryz.ntmps53
      go_upto_region 1 with fail
      rw [← unhide HWA]
      go_wp2_with (first
        | (go_at_call 51; refine (unhide HU5).mono ?_; rintro r w6 ⟨rfl, hb6⟩; have hB6 := below_step hB5 hb6; have hEl6 := (unhide HE).later (below_step (below_step (below_step (below_step (below_step hb1 hb2) hb3) hb4) hb5) hb6); have k6 := hEl6.c6; rw [h3] at k6; have k7 := hEl6.c7; have k8 := hEl6.c8; simp only [Nat.zero_add] at k6 k7 k8; clear hEl6)
        | (go_at_call 50; refine (unhide HL3).mono ?_; rintro r w4 ⟨rfl, hb4⟩; have hB4 := below_step hB3 hb4; have k4 := ((unhide HE).later (below_step (below_step (below_step hb1 hb2) hb3) hb4)).c4; simp only [Nat.zero_add] at k4)
        | (go_at_call 50; refine (unhide HL _ (unhide HB)).mono ?_; rintro r w1 ⟨rfl, hb1⟩; have e3 := ((unhide HE).later hb1).c3; simp only [Nat.zero_add] at e3)
        | (go_at_call 51; refine (unhide HU _ (below_step (unhide HB) hb1)).mono ?_; rintro r w2 ⟨rfl, hb2⟩; have g4 := ((unhide HE).later (below_step hb1 hb2)).c4; simp only [Nat.zero_add] at g4; have hB2 := below_step (below_step (unhide HB) hb1) hb2)
        | (go_at_call 38; refine (unhide HK _ hB4).mono ?_; rintro r w5 ⟨a5, c5x, rfl, hO5, hb5⟩; have HU5 := hide (unlikeR_any kc a5 c5x w5 (by have := unhide HKL; omega) hO5.cap_le hO5.ints); rw [huk] at HU5; have hB5 := below_step hB4 hb5)
        | (go_at_call 38; refine (unhide HK _ hB2).mono ?_; rintro r w3 ⟨a3, c3x, rfl, hO3, hb3⟩; have HL3 := hide (low_any kc a3 c3x w3 (by have := unhide HKL; omega) hO3.ints); rw [hlk] at HL3; have hB3 := below_step hB2 hb3))
      go_ret
      exact ⟨rfl, hB6⟩
    · rw [hz] at HR4
      obtain rfl : R = (p.n == 0) := unhide HR4
      go_enter Tryz.func53, Tryz.ntmps53
      go_upto_region 1 with fail
      rw [← unhide HWA]
      go_wp2_with (first
        | (go_at_call 51; refine (unhide HU5).mono ?_; rintro r w6 ⟨rfl, hb6⟩; have hB6 := below_step hB5 hb6; have hEl6 := (unhide HE).later (below_step (below_step (below_step (below_step (below_step hb1 hb2) hb3) hb4) hb5) hb6); have k6 := hEl6.c6; rw [h3] at k6; have k7 := hEl6.c7; have k8 := hEl6.c8; simp only [Nat.zero_add] at k6 k7 k8; clear hEl6)
        | (go_at_call 50; refine (unhide HL3).mono ?_; rintro r w4 ⟨rfl, hb4⟩; have hB4 := below_step hB3 hb4; have k4 := ((unhide HE).later (below_step (below_step (below_step hb1 hb2) hb3) hb4)).c4; simp only [Nat.zero_add] at k4)
        | (go_at_call 50; refine (unhide HL _ (unhide HB)).mono ?_; rintro r w1 ⟨rfl, hb1⟩; have e3 := ((unhide HE).later hb1).c3; simp only [Nat.zero_add] at e3)
        | (go_at_call 51; refine (unhide HU _ (below_step (unhide HB) hb1)).mono ?_; rintro r w2 ⟨rfl, hb2⟩; have g4 := ((unhide HE).later (below_step hb1 hb2)).c4; simp only [Nat.zero_add] at g4; have hB2 := below_step (below_step (unhide HB) hb1) hb2)
        | (go_at_call 38; refine (unhide HK _ hB4).mono ?_; rintro r w5 ⟨a5, c5x, rfl, hO5, hb5⟩; have HU5 := hide (unlikeR_any kc a5 c5x w5 (by have := unhide HKL; omega) hO5.cap_le hO5.ints); rw [huk] at HU5; have hB5 := below_step hB4 hb5)
        | (go_at_call 38; refine (unhide HK _ hB2).mono ?_; rintro r w3 ⟨a3, c3x, rfl, hO3, hb3⟩; have HL3 := hide (low_any kc a3 c3x w3 (by have := unhide HKL; omega) hO3.ints); rw [hlk] at HL3; have hB3 := below_step hB2 hb3))
      go_ret
      exact ⟨rfl, hB6⟩
  by_cases h4 : p.fn = 4
  · rw [h4] at HR3
    obtain rfl : R = true := by rw [unhide HR3]; show decide (0 ≤ p.col) = true; exact decide_eq_true (by omega)
    rw [h4] at HWA ⊢
    go_enter Tryz.func53, Tryz.ntmps53
    go_upto_region 1 with fail
    rw [← unhide HWA]
    go_wp2_with (first
      | (go_at_call 51; refine (unhide HU5).mono ?_; rintro r w6 ⟨rfl, hb6⟩; have hB6 := below_step hB5 hb6; have hEl6 := (unhide HE).later (below_step (below_step (below_step (below_step (below_step hb1 hb2) hb3) hb4) hb5) hb6); have k6 := hEl6.c6; rw [h4] at k6; have k7 := hEl6.c7; have k8 := hEl6.c8; simp only [Nat.zero_add] at k6 k7 k8; clear hEl6)
      | (go_at_call 50; refine (unhide HL3).mono ?_; rintro r w4 ⟨rfl, hb4⟩; have hB4 := below_step hB3 hb4; have k4 := ((unhide HE).later (below_step (below_step (below_step hb1 hb2) hb3) hb4)).c4; simp only [Nat.zero_add] at k4)
      | (go_at_call 50; refine (unhide HL _ (unhide HB)).mono ?_; rintro r w1 ⟨rfl, hb1⟩; have e3 := ((unhide HE).later hb1).c3; simp only [Nat.zero_add] at e3)
      | (go_at_call 51; refine (unhide HU _ (below_step (unhide HB) hb1)).mono ?_; rintro r w2 ⟨rfl, hb2⟩; have g4 := ((unhide HE).later (below_step hb1 hb2)).c4; simp only [Nat.zero_add] at g4; have hB2 := below_step (below_step (unhide HB) hb1) hb2)
      | (go_at_call 38; refine (unhide HK _ hB4).mono ?_; rintro r w5 ⟨a5, c5x, rfl, hO5, hb5⟩; have HU5 := hide (unlikeR_any kc a5 c5x w5 (by have := unhide HKL; omega) hO5.cap_le hO5.ints); rw [huk] at HU5; have hB5 := below_step hB4 hb5)
      | (go_at_call 38; refine (unhide HK _ hB2).mono ?_; rintro r w3 ⟨a3, c3x, rfl, hO3, hb3⟩; have HL3 := hide (low_any kc a3 c3x w3 (by have := unhide HKL; omega) hO3.ints); rw [hlk] at HL3; have hB3 := below_step hB2 hb3))
    go_ret
    exact ⟨rfl, hB6⟩
  by_cases h5 : p.fn = 5
  · rw [h5] at HR3
    obtain rfl : R = true := by rw [unhide HR3]; show decide (0 ≤ p.col) = true; exact decide_eq_true (by omega)
    rw [h5] at HWA ⊢
    go_enter Tryz.func53, Tryz.ntmps53
    go_upto_region 1 with fail
    rw [← unhide HWA]
    go_wp2_with (first
      | (go_at_call 51; refine (unhide HU5).mono ?_; rintro r w6 ⟨rfl, hb6⟩; have hB6 := below_step hB5 hb6; have hEl6 := (unhide HE).later (below_step (below_step (below_step (below_step (below_step hb1 hb2) hb3) hb4) hb5) hb6); have k6 := hEl6.c6; rw [h5] at k6; have k7 := hEl6.c7; have k8 := hEl6.c8; simp only [Nat.zero_add] at k6 k7 k8; clear hEl6)
      | (go_at_call 50; refine (unhide HL3).mono ?_; rintro r w4 ⟨rfl, hb4⟩; have hB4 := below_step hB3 hb4; have k4 := ((unhide HE).later (below_step (below_step (below_step hb1 hb2) hb3) hb4)).c4; simp only [Nat.zero_add] at k4)
      | (go_at_call 50; refine (unhide HL _ (unhide HB)).mono ?_; rintro r w1 ⟨rfl, hb1⟩; have e3 := ((unhide HE).later hb1).c3; simp only [Nat.zero_add] at e3)
      | (go_at_call 51; refine (unhide HU _ (below_step (unhide HB) hb1)).mono ?_; rintro r w2 ⟨rfl, hb2⟩; have g4 := ((unhide HE).later (below_step hb1 hb2)).c4; simp only [Nat.zero_add] at g4; have hB2 := below_step (below_step (unhide HB) hb1) hb2)
      | (go_at_call 38; refine (unhide HK _ hB4).mono ?_; rintro r w5 ⟨a5, c5x, rfl, hO5, hb5⟩; have HU5 := hide (unlikeR_any kc a5 c5x w5 (by have := unhide HKL; omega) hO5.cap_le hO5.ints); rw [huk] at HU5; have hB5 := below_step hB4 hb5)
      | (go_at_call 38; refine (unhide HK _ hB2).mono ?_; rintro r w3 ⟨a3, c3x, rfl, hO3, hb3⟩; have HL3 := hide (low_any kc a3 c3x w3 (by have := unhide HKL; omega) hO3.ints); rw [hlk] at HL3; have hB3 := below_step hB2 hb3))
    go_ret
    exact ⟨rfl, hB6⟩
  by_cases h6 : p.fn = 6
  · rw [h6] at HR3
    obtain rfl : R = decide (0 ≤ p.n) := by rw [unhide HR3]; show (decide (0 ≤ p.col) && decide (0 ≤ p.n)) = _; rw [decide_eq_true (by omega : 0 ≤ p.col)]; rfl
    rw [h6] at HWA ⊢
    go_enter Tryz.func53, Tryz.ntmps53
    go_upto_region 1 with fail
    rw [← unhide HWA]
    go_wp2_with (first
      | (go_at_call 51; refine (unhide HU5).mono ?_; rintro r w6 ⟨rfl, hb6⟩; have hB6 := below_step hB5 hb6; have hEl6 := (unhide HE).later (below_step (below_step (below_step (below_step (below_step hb1 hb2) hb3) hb4) hb5) hb6); have k6 := hEl6.c6; rw [h6] at k6; have k7 := hEl6.c7; have k8 := hEl6.c8; simp only [Nat.zero_add] at k6 k7 k8; clear hEl6)
      | (go_at_call 50; refine (unhide HL3).mono ?_; rintro r w4 ⟨rfl, hb4⟩; have hB4 := below_step hB3 hb4; have k4 := ((unhide HE).later (below_step (below_step (below_step hb1 hb2) hb3) hb4)).c4; simp only [Nat.zero_add] at k4)
      | (go_at_call 50; refine (unhide HL _ (unhide HB)).mono ?_; rintro r w1 ⟨rfl, hb1⟩; have e3 := ((unhide HE).later hb1).c3; simp only [Nat.zero_add] at e3)
      | (go_at_call 51; refine (unhide HU _ (below_step (unhide HB) hb1)).mono ?_; rintro r w2 ⟨rfl, hb2⟩; have g4 := ((unhide HE).later (below_step hb1 hb2)).c4; simp only [Nat.zero_add] at g4; have hB2 := below_step (below_step (unhide HB) hb1) hb2)
      | (go_at_call 38; refine (unhide HK _ hB4).mono ?_; rintro r w5 ⟨a5, c5x, rfl, hO5, hb5⟩; have HU5 := hide (unlikeR_any kc a5 c5x w5 (by have := unhide HKL; omega) hO5.cap_le hO5.ints); rw [huk] at HU5; have hB5 := below_step hB4 hb5)
      | (go_at_call 38; refine (unhide HK _ hB2).mono ?_; rintro r w3 ⟨a3, c3x, rfl, hO3, hb3⟩; have HL3 := hide (low_any kc a3 c3x w3 (by have := unhide HKL; omega) hO3.ints); rw [hlk] at HL3; have hB3 := below_step hB2 hb3))
    go_ret
    exact ⟨rfl, hB6⟩
  · have a1 : (p.fn == 1) = false := by simpa using h1
    have a2 : (p.fn == 2) = false := by simpa using h2
    have a3' : (p.fn == 3) = false := by simpa using h3
    have a4 : (p.fn == 4) = false := by simpa using h4
    have a5' : (p.fn == 5) = false := by simpa using h5
    have a6 : (p.fn == 6) = false := by simpa using h6
    obtain rfl : R = false := by rw [unhide HR3]; unfold winB; rw [a1, a2, a3', a4, a5', a6]; rfl
    clear h1 h2 h3 h4 h5 h6
    go_enter Tryz.func53, Tryz.ntmps53
    go_upto_region 1 with fail
    rw [← unhide HWA]
    go_wp2_with (first
      | (go_at_call 51; refine (unhide HU5).mono ?_; rintro r w6 ⟨rfl, hb6⟩; have hB6 := below_step hB5 hb6; have hEl6 := (unhide HE).later (below_step (below_step (below_step (below_step (below_step hb1 hb2) hb3) hb4) hb5) hb6); have k6 := hEl6.c6; have k7 := hEl6.c7; have k8 := hEl6.c8; simp only [Nat.zero_add] at k6 k7 k8; clear hEl6)
      | (go_at_call 50; refine (unhide HL3).mono ?_; rintro r w4 ⟨rfl, hb4⟩; have hB4 := below_step hB3 hb4; have k4 := ((unhide HE).later (below_step (below_step (below_step hb1 hb2) hb3) hb4)).c4; simp only [Nat.zero_add] at k4)
      | (go_at_call 50; refine (unhide HL _ (unhide HB)).mono ?_; rintro r w1 ⟨rfl, hb1⟩; have e3 := ((unhide HE).later hb1).c3; simp only [Nat.zero_add] at e3)
      | (go_at_call 51; refine (unhide HU _ (below_step (unhide HB) hb1)).mono ?_; rintro r w2 ⟨rfl, hb2⟩; have g4 := ((unhide HE).later (below_step hb1 hb2)).c4; simp only [Nat.zero_add] at g4; have hB2 := below_step (below_step (unhide HB) hb1) hb2)
      | (go_at_call 38; refine (unhide HK _ hB4).mono ?_; rintro r w5 ⟨a5, c5x, rfl, hO5, hb5⟩; have HU5 := hide (unlikeR_any kc a5 c5x w5 (by have := unhide HKL; omega) hO5.cap_le hO5.ints); rw [huk] at HU5; have hB5 := below_step hB4 hb5)
      | (go_at_call 38; refine (unhide HK _ hB2).mono ?_; rintro r w3 ⟨a3, c3x, rfl, hO3, hb3⟩; have HL3 := hide (low_any kc a3 c3x w3 (by have := unhide HKL; omega) hO3.ints); rw [hlk] at HL3; have hB3 := below_step hB2 hb3))
    go_ret
    exact ⟨rfl, hB6⟩
end Go.Proofs.YtcpndojkfngioaaGreat
set_option linter.unusedSimpArgs false
set_option linter.unusedVariables false
namespace Go.Proofs.YtcpndojkfngioaaGreat
open Go.RowKit Go.Sort

/-- What is left of a plan must be nothing. -/
def finB (p : Pl) (A E : Int) (T : ByteArray) (lc lk la : Nat) (F C N O : Int) : Bool := decide ((p.args.length : Int) = A) && decide ((p.ex.length : Int) = E) && decide (T = ⟨#[]⟩) && decide (lc = 0) && decide (lk = 0) && decide (la = 0) && decide (F = 0) && decide (C = 0) && decide (N = 0) && decide (O = 0)
theorem sound_not {p : Pl} (h : needsB p = false) : soundP p = false := by unfold soundP; rw [h, Bool.and_false]; rfl
theorem sound_eq {p : Pl} (h : needsB p = true) : soundP p = (argsB p && alikeB p (ndP p)) := by unfold soundP; rw [h, Bool.and_true]
theorem fin1 {p : Pl} (h : p.op = 1) (hn : needsB p = true) : soundP p = finB p 0 0 ⟨#[]⟩ p.cols.length p.keys.length p.aggs.length p.fn p.col p.n p.off := by
  rw [sound_eq hn]
  unfold argsB alikeB ndP finB exN colN keyN
  simp only [Pl.tab, Pl.ex, Pl.cols, Pl.keys, Pl.aggs, Pl.fn, Pl.col, Pl.n, Pl.off, Pl.args, Pl.op] at h ⊢
  rw [Bool.eq_iff_iff]
  cases p
  simp only [Pl.tab, Pl.ex, Pl.cols, Pl.keys, Pl.aggs, Pl.fn, Pl.col, Pl.n, Pl.off, Pl.args, Pl.op] at h ⊢
  subst h
  simp
  grind
theorem fin2 {p : Pl} (h : p.op = 2) : soundP p = finB p 1 1 p.tab p.cols.length p.keys.length p.aggs.length p.fn p.col p.n p.off := by
  have hn : needsB p = (p.ex.length == 1) := by unfold needsB; rw [h]; rfl
  unfold soundP
  rw [hn]
  unfold argsB alikeB ndP finB exN colN keyN
  simp only [Pl.tab, Pl.ex, Pl.cols, Pl.keys, Pl.aggs, Pl.fn, Pl.col, Pl.n, Pl.off, Pl.args, Pl.op] at h ⊢
  rw [Bool.eq_iff_iff]
  cases p
  simp only [Pl.tab, Pl.ex, Pl.cols, Pl.keys, Pl.aggs, Pl.fn, Pl.col, Pl.n, Pl.off, Pl.args, Pl.op] at h ⊢
  subst h
  simp
  grind
theorem fin3 {p : Pl} (h : p.op = 3) (hn : needsB p = true) : soundP p = finB p 1 (p.ex.length : Int) p.tab p.cols.length p.keys.length p.aggs.length p.fn p.col p.n p.off := by
  rw [sound_eq hn]
  clear hn
  unfold argsB alikeB ndP finB exN colN keyN
  simp only [Pl.tab, Pl.ex, Pl.cols, Pl.keys, Pl.aggs, Pl.fn, Pl.col, Pl.n, Pl.off, Pl.args, Pl.op] at h ⊢
  rw [Bool.eq_iff_iff]
  cases p
  simp only [Pl.tab, Pl.ex, Pl.cols, Pl.keys, Pl.aggs, Pl.fn, Pl.col, Pl.n, Pl.off, Pl.args, Pl.op] at h ⊢
  subst h
  simp
  grind
theorem fin4 {p : Pl} (h : p.op = 4) : soundP p = finB p 2 1 p.tab p.cols.length p.keys.length p.aggs.length p.fn p.col p.n p.off := by
  have hn : needsB p = (p.ex.length == 1) := by unfold needsB; rw [h]; rfl
  unfold soundP
  rw [hn]
  unfold argsB alikeB ndP finB exN colN keyN
  simp only [Pl.tab, Pl.ex, Pl.cols, Pl.keys, Pl.aggs, Pl.fn, Pl.col, Pl.n, Pl.off, Pl.args, Pl.op] at h ⊢
  rw [Bool.eq_iff_iff]
  cases p
  simp only [Pl.tab, Pl.ex, Pl.cols, Pl.keys, Pl.aggs, Pl.fn, Pl.col, Pl.n, Pl.off, Pl.args, Pl.op] at h ⊢
  subst h
  simp
  grind
theorem fin5 {p : Pl} (h : p.op = 5) : soundP p = finB p 2 1 p.tab p.cols.length p.keys.length p.aggs.length p.fn p.col p.n p.off := by
  have hn : needsB p = (p.ex.length == 1) := by unfold needsB; rw [h]; rfl
  unfold soundP
  rw [hn]
  unfold argsB alikeB ndP finB exN colN keyN
  simp only [Pl.tab, Pl.ex, Pl.cols, Pl.keys, Pl.aggs, Pl.fn, Pl.col, Pl.n, Pl.off, Pl.args, Pl.op] at h ⊢
  rw [Bool.eq_iff_iff]
  cases p
  simp only [Pl.tab, Pl.ex, Pl.cols, Pl.keys, Pl.aggs, Pl.fn, Pl.col, Pl.n, Pl.off, Pl.args, Pl.op] at h ⊢
  subst h
  simp
  grind
theorem fin6 {p : Pl} (h : p.op = 6) (hn : needsB p = true) : soundP p = finB p 1 0 p.tab 0 p.keys.length 0 p.fn p.col p.n p.off := by
  rw [sound_eq hn]
  unfold argsB alikeB ndP finB exN colN keyN
  simp only [Pl.tab, Pl.ex, Pl.cols, Pl.keys, Pl.aggs, Pl.fn, Pl.col, Pl.n, Pl.off, Pl.args, Pl.op] at h ⊢
  rw [Bool.eq_iff_iff]
  cases p
  simp only [Pl.tab, Pl.ex, Pl.cols, Pl.keys, Pl.aggs, Pl.fn, Pl.col, Pl.n, Pl.off, Pl.args, Pl.op] at h ⊢
  subst h
  simp
  grind
theorem fin7 {p : Pl} (h : p.op = 7) (hn : needsB p = true) : soundP p = finB p 1 0 p.tab p.cols.length p.keys.length p.aggs.length p.fn p.col p.n p.off := by
  rw [sound_eq hn]
  unfold argsB alikeB ndP finB exN colN keyN
  simp only [Pl.tab, Pl.ex, Pl.cols, Pl.keys, Pl.aggs, Pl.fn, Pl.col, Pl.n, Pl.off, Pl.args, Pl.op] at h ⊢
  rw [Bool.eq_iff_iff]
  cases p
  simp only [Pl.tab, Pl.ex, Pl.cols, Pl.keys, Pl.aggs, Pl.fn, Pl.col, Pl.n, Pl.off, Pl.args, Pl.op] at h ⊢
  subst h
  simp
  grind
theorem fin8 {p : Pl} (h : p.op = 8) (hn : needsB p = true) : soundP p = finB p (max 1 (p.args.length : Int)) 0 p.tab p.cols.length p.keys.length p.aggs.length p.fn p.col p.n p.off := by
  rw [sound_eq hn]
  unfold argsB alikeB ndP finB exN colN keyN
  simp only [Pl.tab, Pl.ex, Pl.cols, Pl.keys, Pl.aggs, Pl.fn, Pl.col, Pl.n, Pl.off, Pl.args, Pl.op] at h ⊢
  rw [Bool.eq_iff_iff]
  cases p
  simp only [Pl.tab, Pl.ex, Pl.cols, Pl.keys, Pl.aggs, Pl.fn, Pl.col, Pl.n, Pl.off, Pl.args, Pl.op] at h ⊢
  subst h
  simp
  grind
theorem fin9 {p : Pl} (h : p.op = 9) (hn : needsB p = true) : soundP p = finB p 1 0 p.tab p.cols.length 0 p.aggs.length p.fn p.col 0 0 := by
  rw [sound_eq hn]
  unfold argsB alikeB ndP finB exN colN keyN
  simp only [Pl.tab, Pl.ex, Pl.cols, Pl.keys, Pl.aggs, Pl.fn, Pl.col, Pl.n, Pl.off, Pl.args, Pl.op] at h ⊢
  rw [Bool.eq_iff_iff]
  cases p
  simp only [Pl.tab, Pl.ex, Pl.cols, Pl.keys, Pl.aggs, Pl.fn, Pl.col, Pl.n, Pl.off, Pl.args, Pl.op] at h ⊢
  subst h
  simp
  grind
theorem fin10 {p : Pl} (h : p.op = 10) (hn : needsB p = true) : soundP p = finB p 1 0 p.tab 0 0 p.aggs.length 0 0 0 p.off := by
  rw [sound_eq hn]
  unfold argsB alikeB ndP finB exN colN keyN
  simp only [Pl.tab, Pl.ex, Pl.cols, Pl.keys, Pl.aggs, Pl.fn, Pl.col, Pl.n, Pl.off, Pl.args, Pl.op] at h ⊢
  rw [Bool.eq_iff_iff]
  cases p
  simp only [Pl.tab, Pl.ex, Pl.cols, Pl.keys, Pl.aggs, Pl.fn, Pl.col, Pl.n, Pl.off, Pl.args, Pl.op] at h ⊢
  subst h
  simp
  grind
theorem fin11 {p : Pl} (h : p.op = 11) (hn : needsB p = true) : soundP p = finB p 2 0 p.tab p.cols.length p.keys.length p.aggs.length p.fn p.col p.n p.off := by
  rw [sound_eq hn]
  unfold argsB alikeB ndP finB exN colN keyN
  simp only [Pl.tab, Pl.ex, Pl.cols, Pl.keys, Pl.aggs, Pl.fn, Pl.col, Pl.n, Pl.off, Pl.args, Pl.op] at h ⊢
  rw [Bool.eq_iff_iff]
  cases p
  simp only [Pl.tab, Pl.ex, Pl.cols, Pl.keys, Pl.aggs, Pl.fn, Pl.col, Pl.n, Pl.off, Pl.args, Pl.op] at h ⊢
  subst h
  simp
  grind
theorem fin12 {p : Pl} (h : p.op = 12) (hn : needsB p = true) : soundP p = finB p 0 0 p.tab 0 p.keys.length p.aggs.length p.fn p.col p.n p.off := by
  rw [sound_eq hn]
  unfold argsB alikeB ndP finB exN colN keyN
  simp only [Pl.tab, Pl.ex, Pl.cols, Pl.keys, Pl.aggs, Pl.fn, Pl.col, Pl.n, Pl.off, Pl.args, Pl.op] at h ⊢
  rw [Bool.eq_iff_iff]
  cases p
  simp only [Pl.tab, Pl.ex, Pl.cols, Pl.keys, Pl.aggs, Pl.fn, Pl.col, Pl.n, Pl.off, Pl.args, Pl.op] at h ⊢
  subst h
  simp
  grind
/-- A plan's copy, in a box of its own that may be written. -/
structure Cpy (w : World) (b : Nat) (q : Pl) (m : Pm) : Prop where
  e : Elv w b 0 q m
  f1 : w.frozen? ⟨b, 1, none⟩ = false
  f3 : w.frozen? ⟨b, 3, none⟩ = false
  f4 : w.frozen? ⟨b, 4, none⟩ = false
  f5 : w.frozen? ⟨b, 5, none⟩ = false
  f6 : w.frozen? ⟨b, 6, none⟩ = false
  f7 : w.frozen? ⟨b, 7, none⟩ = false
  f8 : w.frozen? ⟨b, 8, none⟩ = false
  f9 : w.frozen? ⟨b, 9, none⟩ = false
theorem Cpy.new (w : World) (q : Pl) (m : Pm) : Cpy (w.alloc (q.box m)) w.heap.size q m := ⟨Elv.new w q m, by simp [go_sem], by simp [go_sem], by simp [go_sem], by simp [go_sem], by simp [go_sem], by simp [go_sem], by simp [go_sem], by simp [go_sem]⟩
theorem Cpy.later {w w1 : World} {b : Nat} {q : Pl} {m : Pm} (h : Cpy w b q m) (hb : Below w.heap.size w w1) : Cpy w1 b q m := by
  obtain ⟨hc, hf⟩ := bcell hb
  have hl : b < w.heap.size := World.block_lt_of_cell? w _ h.e.c0
  exact ⟨h.e.later hb, by rw [hf _ _ hl]; exact h.f1, by rw [hf _ _ hl]; exact h.f3, by rw [hf _ _ hl]; exact h.f4, by rw [hf _ _ hl]; exact h.f5, by rw [hf _ _ hl]; exact h.f6, by rw [hf _ _ hl]; exact h.f7, by rw [hf _ _ hl]; exact h.f8, by rw [hf _ _ hl]; exact h.f9⟩
theorem Elv.put {w : World} {b g o : Nat} {p : Pl} {m : Pm} (h : Elv w b 0 p m) (hg : b ≠ g) (u : Value) : Elv (w.setCell ⟨g, o, none⟩ u) b 0 p m := by
  have hn : ∀ k, (w.setCell ⟨g, o, none⟩ u).cell? ⟨b, k, none⟩ = w.cell? ⟨b, k, none⟩ := fun k => cell_set_ne _ _ _ _ _ _ (by simp [hg])
  obtain ⟨c0, c1, c2, c3, c4, c5, c6, c7, c8, c9, c10⟩ := h
  exact ⟨by rw [hn]; exact c0, by rw [hn]; exact c1, by rw [hn]; exact c2, by rw [hn]; exact c3, by rw [hn]; exact c4, by rw [hn]; exact c5, by rw [hn]; exact c6, by rw [hn]; exact c7, by rw [hn]; exact c8, by rw [hn]; exact c9, by rw [hn]; exact c10⟩
theorem Cpy.put_tab {w : World} {b : Nat} {q : Pl} {m : Pm} (h : Cpy w b q m) : Cpy (w.setCell ⟨b, 1, none⟩ (.string ⟨#[]⟩)) b (.mk q.op ⟨#[]⟩ q.ex q.cols q.keys q.aggs q.fn q.col q.n q.off q.args) m := by
  obtain ⟨⟨c0, c1, c2, c3, c4, c5, c6, c7, c8, c9, c10⟩, f1, f3, f4, f5, f6, f7, f8, f9⟩ := h
  simp only [Nat.zero_add] at c0 c1 c2 c3 c4 c5 c6 c7 c8 c9 c10
  have hn : ∀ k, k ≠ 1 → (w.setCell ⟨b, 1, none⟩ (.string ⟨#[]⟩)).cell? ⟨b, k, none⟩ = w.cell? ⟨b, k, none⟩ := fun k hk => cell_set_ne _ _ _ _ _ _ (by simp [hk])
  have hs := cell_set_at (u := (.string ⟨#[]⟩)) c1
  refine ⟨⟨?_, ?_, ?_, ?_, ?_, ?_, ?_, ?_, ?_, ?_, ?_⟩, ?_, ?_, ?_, ?_, ?_, ?_, ?_, ?_⟩
  all_goals first
    | (try simp only [Nat.zero_add]
       rw [hn _ (by decide)]
       assumption)
    | (rw [frozen_set]; assumption)
    | exact hs
theorem Cpy.put_cols {w : World} {b : Nat} {q : Pl} {m : Pm} (h : Cpy w b q m) : Cpy (w.setCell ⟨b, 3, none⟩ (.slice none 0 0)) b (.mk q.op q.tab q.ex [] q.keys q.aggs q.fn q.col q.n q.off q.args) { m with aC := none, cC := 0 } := by
  obtain ⟨⟨c0, c1, c2, c3, c4, c5, c6, c7, c8, c9, c10⟩, f1, f3, f4, f5, f6, f7, f8, f9⟩ := h
  simp only [Nat.zero_add] at c0 c1 c2 c3 c4 c5 c6 c7 c8 c9 c10
  have hn : ∀ k, k ≠ 3 → (w.setCell ⟨b, 3, none⟩ (.slice none 0 0)).cell? ⟨b, k, none⟩ = w.cell? ⟨b, k, none⟩ := fun k hk => cell_set_ne _ _ _ _ _ _ (by simp [hk])
  have hs := cell_set_at (u := (.slice none 0 0)) c3
  refine ⟨⟨?_, ?_, ?_, ?_, ?_, ?_, ?_, ?_, ?_, ?_, ?_⟩, ?_, ?_, ?_, ?_, ?_, ?_, ?_, ?_⟩
  all_goals first
    | (try simp only [Nat.zero_add]
       rw [hn _ (by decide)]
       assumption)
    | (rw [frozen_set]; assumption)
    | exact hs
theorem Cpy.put_keys {w : World} {b : Nat} {q : Pl} {m : Pm} (h : Cpy w b q m) : Cpy (w.setCell ⟨b, 4, none⟩ (.slice none 0 0)) b (.mk q.op q.tab q.ex q.cols [] q.aggs q.fn q.col q.n q.off q.args) { m with aK := none, cK := 0 } := by
  obtain ⟨⟨c0, c1, c2, c3, c4, c5, c6, c7, c8, c9, c10⟩, f1, f3, f4, f5, f6, f7, f8, f9⟩ := h
  simp only [Nat.zero_add] at c0 c1 c2 c3 c4 c5 c6 c7 c8 c9 c10
  have hn : ∀ k, k ≠ 4 → (w.setCell ⟨b, 4, none⟩ (.slice none 0 0)).cell? ⟨b, k, none⟩ = w.cell? ⟨b, k, none⟩ := fun k hk => cell_set_ne _ _ _ _ _ _ (by simp [hk])
  have hs := cell_set_at (u := (.slice none 0 0)) c4
  refine ⟨⟨?_, ?_, ?_, ?_, ?_, ?_, ?_, ?_, ?_, ?_, ?_⟩, ?_, ?_, ?_, ?_, ?_, ?_, ?_, ?_⟩
  all_goals first
    | (try simp only [Nat.zero_add]
       rw [hn _ (by decide)]
       assumption)
    | (rw [frozen_set]; assumption)
    | exact hs
theorem Cpy.put_aggs {w : World} {b : Nat} {q : Pl} {m : Pm} (h : Cpy w b q m) : Cpy (w.setCell ⟨b, 5, none⟩ (.slice none 0 0)) b (.mk q.op q.tab q.ex q.cols q.keys [] q.fn q.col q.n q.off q.args) { m with aA := none, cA := 0 } := by
  obtain ⟨⟨c0, c1, c2, c3, c4, c5, c6, c7, c8, c9, c10⟩, f1, f3, f4, f5, f6, f7, f8, f9⟩ := h
  simp only [Nat.zero_add] at c0 c1 c2 c3 c4 c5 c6 c7 c8 c9 c10
  have hn : ∀ k, k ≠ 5 → (w.setCell ⟨b, 5, none⟩ (.slice none 0 0)).cell? ⟨b, k, none⟩ = w.cell? ⟨b, k, none⟩ := fun k hk => cell_set_ne _ _ _ _ _ _ (by simp [hk])
  have hs := cell_set_at (u := (.slice none 0 0)) c5
  refine ⟨⟨?_, ?_, ?_, ?_, ?_, ?_, ?_, ?_, ?_, ?_, ?_⟩, ?_, ?_, ?_, ?_, ?_, ?_, ?_, ?_⟩
  all_goals first
    | (try simp only [Nat.zero_add]
       rw [hn _ (by decide)]
       assumption)
    | (rw [frozen_set]; assumption)
    | exact hs
theorem Cpy.put_fn {w : World} {b : Nat} {q : Pl} {m : Pm} (h : Cpy w b q m) : Cpy (w.setCell ⟨b, 6, none⟩ (.int .i64 0)) b (.mk q.op q.tab q.ex q.cols q.keys q.aggs 0 q.col q.n q.off q.args) m := by
  obtain ⟨⟨c0, c1, c2, c3, c4, c5, c6, c7, c8, c9, c10⟩, f1, f3, f4, f5, f6, f7, f8, f9⟩ := h
  simp only [Nat.zero_add] at c0 c1 c2 c3 c4 c5 c6 c7 c8 c9 c10
  have hn : ∀ k, k ≠ 6 → (w.setCell ⟨b, 6, none⟩ (.int .i64 0)).cell? ⟨b, k, none⟩ = w.cell? ⟨b, k, none⟩ := fun k hk => cell_set_ne _ _ _ _ _ _ (by simp [hk])
  have hs := cell_set_at (u := (.int .i64 0)) c6
  refine ⟨⟨?_, ?_, ?_, ?_, ?_, ?_, ?_, ?_, ?_, ?_, ?_⟩, ?_, ?_, ?_, ?_, ?_, ?_, ?_, ?_⟩
  all_goals first
    | (try simp only [Nat.zero_add]
       rw [hn _ (by decide)]
       assumption)
    | (rw [frozen_set]; assumption)
    | exact hs
theorem Cpy.put_col {w : World} {b : Nat} {q : Pl} {m : Pm} (h : Cpy w b q m) : Cpy (w.setCell ⟨b, 7, none⟩ (.int .i64 0)) b (.mk q.op q.tab q.ex q.cols q.keys q.aggs q.fn 0 q.n q.off q.args) m := by
  obtain ⟨⟨c0, c1, c2, c3, c4, c5, c6, c7, c8, c9, c10⟩, f1, f3, f4, f5, f6, f7, f8, f9⟩ := h
  simp only [Nat.zero_add] at c0 c1 c2 c3 c4 c5 c6 c7 c8 c9 c10
  have hn : ∀ k, k ≠ 7 → (w.setCell ⟨b, 7, none⟩ (.int .i64 0)).cell? ⟨b, k, none⟩ = w.cell? ⟨b, k, none⟩ := fun k hk => cell_set_ne _ _ _ _ _ _ (by simp [hk])
  have hs := cell_set_at (u := (.int .i64 0)) c7
  refine ⟨⟨?_, ?_, ?_, ?_, ?_, ?_, ?_, ?_, ?_, ?_, ?_⟩, ?_, ?_, ?_, ?_, ?_, ?_, ?_, ?_⟩
  all_goals first
    | (try simp only [Nat.zero_add]
       rw [hn _ (by decide)]
       assumption)
    | (rw [frozen_set]; assumption)
    | exact hs
theorem Cpy.put_n {w : World} {b : Nat} {q : Pl} {m : Pm} (h : Cpy w b q m) : Cpy (w.setCell ⟨b, 8, none⟩ (.int .i64 0)) b (.mk q.op q.tab q.ex q.cols q.keys q.aggs q.fn q.col 0 q.off q.args) m := by
  obtain ⟨⟨c0, c1, c2, c3, c4, c5, c6, c7, c8, c9, c10⟩, f1, f3, f4, f5, f6, f7, f8, f9⟩ := h
  simp only [Nat.zero_add] at c0 c1 c2 c3 c4 c5 c6 c7 c8 c9 c10
  have hn : ∀ k, k ≠ 8 → (w.setCell ⟨b, 8, none⟩ (.int .i64 0)).cell? ⟨b, k, none⟩ = w.cell? ⟨b, k, none⟩ := fun k hk => cell_set_ne _ _ _ _ _ _ (by simp [hk])
  have hs := cell_set_at (u := (.int .i64 0)) c8
  refine ⟨⟨?_, ?_, ?_, ?_, ?_, ?_, ?_, ?_, ?_, ?_, ?_⟩, ?_, ?_, ?_, ?_, ?_, ?_, ?_, ?_⟩
  all_goals first
    | (try simp only [Nat.zero_add]
       rw [hn _ (by decide)]
       assumption)
    | (rw [frozen_set]; assumption)
    | exact hs
theorem Cpy.put_off {w : World} {b : Nat} {q : Pl} {m : Pm} (h : Cpy w b q m) : Cpy (w.setCell ⟨b, 9, none⟩ (.int .i64 0)) b (.mk q.op q.tab q.ex q.cols q.keys q.aggs q.fn q.col q.n 0 q.args) m := by
  obtain ⟨⟨c0, c1, c2, c3, c4, c5, c6, c7, c8, c9, c10⟩, f1, f3, f4, f5, f6, f7, f8, f9⟩ := h
  simp only [Nat.zero_add] at c0 c1 c2 c3 c4 c5 c6 c7 c8 c9 c10
  have hn : ∀ k, k ≠ 9 → (w.setCell ⟨b, 9, none⟩ (.int .i64 0)).cell? ⟨b, k, none⟩ = w.cell? ⟨b, k, none⟩ := fun k hk => cell_set_ne _ _ _ _ _ _ (by simp [hk])
  have hs := cell_set_at (u := (.int .i64 0)) c9
  refine ⟨⟨?_, ?_, ?_, ?_, ?_, ?_, ?_, ?_, ?_, ?_, ?_⟩, ?_, ?_, ?_, ?_, ?_, ?_, ?_, ?_⟩
  all_goals first
    | (try simp only [Nat.zero_add]
       rw [hn _ (by decide)]
       assumption)
    | (rw [frozen_set]; assumption)
    | exact hs
theorem two_ints (w : World) (x y : Int) : IntsAt (w.alloc (.cells #[.int .i64 x, .int .i64 y] 3)) (some ⟨w.heap.size, 0, none⟩) [x, y] := by
  refine .inr ⟨_, _, rfl, fun i z hz => ?_⟩
  match i with
  | 0 => obtain rfl : x = z := by simpa using hz
         simp [go_sem]
  | 1 => obtain rfl : y = z := by simpa using hz
         simp [go_sem]
  | i + 2 => simp at hz
end Go.Proofs.YtcpndojkfngioaaGreat
