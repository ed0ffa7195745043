import Derived.Test.YtigceoehdofckaaGreatNiE
set_option linter.unusedSimpArgs false
set_option linter.unusedVariables false
namespace Go.Proofs.YtigceoehdofckaaGreat
open Go.RowKit

set_option maxRecDepth 100000 in
set_option maxHeartbeats 1000000 in
theorem law_ni (bu : Int) (w : World) :
    Calls Tryz.prog 3 #[.int .i64 bu] w fun e w' => e = .returned (.bool true) ∧ Below w.heap.size w w' := by
  go_enter Tryz.func3, Tryz.ntmps3
  go_wp2_with (first
    | (go_at_call 4; refine (new_any _).mono ?_; rintro _ w1 ⟨rfl, hb1, hy1⟩)
    | (go_at_call 5; refine (stream_any _ w1 hy1).mono ?_; rintro _ w2 ⟨s, rfl, hb2, hy2⟩)
    | (go_at_call 6; refine (sort_nil _ _ _ _ (some ⟨w.heap.size, 0, none⟩) (some ⟨s, 0, none⟩) (by simp)).mono ?_; rintro _ w3 ⟨rfl, hw3⟩; rw [hw3]; clear hw3)
    | (go_at_call 7; refine (once_nil _ _ _ _ (some ⟨w.heap.size, 0, none⟩) (some ⟨s, 0, none⟩) (by simp)).mono ?_; rintro _ w3 ⟨rfl, hw3⟩; rw [hw3]; clear hw3)
    | (go_at_call 8; refine (pairs_nil _ _ _ _ _ (some ⟨w.heap.size, 0, none⟩) (some ⟨s, 0, none⟩) (by simp)).mono ?_; rintro _ w3 ⟨rfl, hw3⟩; rw [hw3]; clear hw3))
  have hbA : Below w2.heap.size w2 (w2.alloc (.cells #[.int .i64 1, .int .i64 1, .int .i64 1, .int .i64 1, .int .i64 1, .int .i64 1, .int .i64 1, .int .i64 1, .int .i64 1, .int .i64 1] 24)) := (Below.refl _ _).alloc (Nat.le_refl _) _
  have hcA : ∀ k : Nat, k < 10 → (w2.alloc (.cells #[.int .i64 1, .int .i64 1, .int .i64 1, .int .i64 1, .int .i64 1, .int .i64 1, .int .i64 1, .int .i64 1, .int .i64 1, .int .i64 1] 24)).cell? ⟨w2.heap.size, k, none⟩ = some (.int .i64 1) := by
    intro k hk
    rcases k with _ | _ | _ | _ | _ | _ | _ | _ | _ | _ | k
    · simp [go_sem]
    · simp [go_sem]
    · simp [go_sem]
    · simp [go_sem]
    · simp [go_sem]
    · simp [go_sem]
    · simp [go_sem]
    · simp [go_sem]
    · simp [go_sem]
    · simp [go_sem]
    · omega
  have hyA := hy2.later hbA
  have hb0 : Below w.heap.size w (w2.alloc (.cells #[.int .i64 1, .int .i64 1, .int .i64 1, .int .i64 1, .int .i64 1, .int .i64 1, .int .i64 1, .int .i64 1, .int .i64 1, .int .i64 1] 24)) := (hb1.trans (hb2.mono hb1.size)).trans (hbA.mono (Nat.le_trans hb1.size hb2.size))
  obtain ⟨wA, hwA⟩ : ∃ wA, w2.alloc (.cells #[.int .i64 1, .int .i64 1, .int .i64 1, .int .i64 1, .int .i64 1, .int .i64 1, .int .i64 1, .int .i64 1, .int .i64 1, .int .i64 1] 24) = wA := ⟨_, rfl⟩
  rw [hwA] at hcA hyA hb0 ⊢
  clear hbA hwA hb1 hb2 hy1 hy2
  have hc4 := hyA.y4
  go_loopw [6] (fun s wr => ∃ k : Nat, s = .int .i64 (k : Int) ∧ k ≤ 10 ∧ wr = wA) (fun s _ => 10 - (intOf s).toNat)
  case atStart => exact ⟨0, rfl, by omega, rfl⟩
  case round =>
    obtain ⟨k, rfl, hk, rfl⟩ := hrel
    by_cases h1 : k < 10
    · have i1 : (k : Int) < 10 := by omega
      have c1 := hcA k h1
      go_wp2
      go_roundw
      case rel => exact ⟨k + 1, by go_num, by omega, trivial⟩
      case measure => first | (simp [intOf]; omega) | (simp only [intOf]; omega)
    · have i1 : ¬ (k : Int) < 10 := by omega
      clear hcA
      have hO := once_any w.heap.size s bu wr hyA
      have lw := hb0.size
      unfold inB at hO
      by_cases h4 : 4 ≤ bu
      · by_cases h6 : bu ≤ 65536
        · rw [if_pos (by simp [h4, h6])] at hO
          go_wp2_with (first | (go_at_call 7; refine hO.mono ?_; rintro _ w4 ⟨rfl, hs4⟩))
          go_ret
          exact ⟨by simp [h6], hb0.trans (hs4.below (Nat.le_refl _) lw)⟩
        · rw [if_neg (by simp [h4, h6])] at hO
          go_wp2_with (first | (go_at_call 7; refine hO.mono ?_; rintro _ w4 ⟨rfl, hs4⟩))
          go_ret
          exact ⟨by simp [h6], hb0.trans (hs4.below (Nat.le_refl _) lw)⟩
      · rw [if_neg (by simp [h4])] at hO
        go_wp2_with (first | (go_at_call 7; refine hO.mono ?_; rintro _ w4 ⟨rfl, hs4⟩))
        go_ret
        exact ⟨by simp [h4], hb0.trans (hs4.below (Nat.le_refl _) lw)⟩
end Go.Proofs.YtigceoehdofckaaGreat
