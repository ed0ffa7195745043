import Derived.Test.YtifohbapfciniabVecH
import Derived.Test.YtifohbapfciniabVecI
set_option linter.unusedSimpArgs false
set_option linter.unusedVariables false
namespace Go.Proofs.Ytifohbapfciniab
open Go.RowKit Go.Sort

theorem box4_alloc (w : World) (a b c d : Value) : (w.alloc (.cells #[a, b, c, d] 27)).rowIs w.heap.size 27 4 (box4 a b c d) := World.rowIs_alloc w _ 27 _ (box4_arr _ _ _ _)
theorem fromV_fit (kind : Int) (xs : List Val) (h : xs.length ≤ maxLen) : fit (fromV kind xs).1 := by
  unfold fromV
  split
  · exact ⟨Nat.zero_le _, Nat.zero_le _, Nat.zero_le _⟩
  · split
    · exact ⟨Nat.zero_le _, Nat.zero_le _, Nat.zero_le _⟩
    · split
      · exact ⟨Nat.zero_le _, Nat.zero_le _, Nat.zero_le _⟩
      · refine ⟨?_, ?_, ?_⟩
        · simpa [laidV, nlOf] using h
        · simp only [laidV]; split <;> simp [h]
        · simp only [laidV]; split <;> simp [h]
theorem fromV_err (kind : Int) (xs : List Val) : -9223372036854775808 ≤ (fromV kind xs).2 ∧ (fromV kind xs).2 ≤ 9223372036854775807 := by
  unfold fromV
  split
  · simp
  · split
    · simp
    · split <;> simp

set_option maxHeartbeats 2000000 in
theorem law_makes (a : Option Addr) (c : Nat) (kind : Int) (xs : List Val) (w : World) (hl : xs.length * 32 ≤ 140737488351232) (ha : RowAt w a xs) :
    Calls Try.prog 3 #[.int .i64 kind, .slice a xs.length c] w fun e w' => e = .returned (.bool true) ∧ Below w.heap.size w w' := by
  have H1 := hide (from_any a c kind xs w (by omega) ha)
  have H2 := hide (fun (w' : World) (hb : Below w.heap.size w w') => rfrom_any a c kind xs w' hl (ha.later hb))
  have HF := hide (fromV_fit kind xs (by unfold maxLen; omega))
  obtain ⟨n1, n2⟩ := fromV_err kind xs
  generalize fromV kind xs = X at H1 H2 HF n1 n2
  obtain ⟨X, n⟩ := X
  simp only at H1 H2 HF n1 n2
  clear ha
  go_enter Try.func3, Try.ntmps3
  go_wp2_with (first
    | (go_at_call 6; refine (unhide H1).mono ?_; rintro e w1 ⟨p, rfl, hv1, hp1, hb1⟩; rw [vecV_open])
    | (go_at_call 7; refine (unhide H2 _ (below_alloc hb1 _)).mono ?_; rintro e w2 ⟨q, rfl, hv2, hp2, hb2⟩; rw [vecV_open]; obtain ⟨r0, r1, r2, r3, _⟩ := box_facts (rowIs_later (box4_alloc w1 _ _ _ _) hb2); have z2 : w1.heap.size < w2.heap.size := (rowIs_later (box4_alloc w1 _ _ _ _) hb2).lt)
    | (go_at_call 8; refine (num_any _ _ ⟨n1, n2⟩).mono ?_; rintro e w3 ⟨rfl, rfl⟩)
    | (go_at_call 9; refine (samevec_same X p q _ (unhide HF) (((hv1.later (below_alloc (Below.refl _ _) _)).later hb2).later (below_alloc (Below.refl _ _) _)) (hv2.later (below_alloc (Below.refl _ _) _))).mono ?_; rintro e w4 ⟨rfl, hb4⟩))
  go_ret
  exact ⟨rfl, below_step (below_alloc (below_step (below_alloc hb1 _) hb2) _) hb4⟩
end Go.Proofs.Ytifohbapfciniab
