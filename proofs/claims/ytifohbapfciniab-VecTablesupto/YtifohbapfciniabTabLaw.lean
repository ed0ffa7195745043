import Derived.Test.YtifohbapfciniabTabD
set_option linter.unusedSimpArgs false
set_option linter.unusedVariables false
namespace Go.Proofs.Ytifohbapfciniab
open Go.RowKit Go.Sort

theorem RowsV.later {w w' : World} {v : Value} {rs : List (List Val)} (h : RowsV w v rs) (hb : Below w.heap.size w w') : RowsV w' v rs := by
  obtain ⟨a, c, e, h⟩ := h
  exact ⟨a, c, e, h.later hb⟩
theorem tab_err (Cs : List (Vc × Sl)) : -9223372036854775808 ≤ (tabV Cs).2 ∧ (tabV Cs).2 ≤ 9223372036854775807 := by
  unfold tabV
  split <;> simp
theorem tab_fit (Cs : List (Vc × Sl)) (hl : Cs.length ≤ 1048576) (hn : len0 Cs ≤ 1048576) : (tabV Cs).1.length ≤ maxLen ∧ ∀ r ∈ (tabV Cs).1, r.length ≤ maxLen := by
  unfold tabV
  split
  · exact ⟨Nat.zero_le _, by simp⟩
  · refine ⟨by simp [rowsOf]; unfold maxLen; omega, fun r hr => ?_⟩
    obtain ⟨j, _, rfl⟩ := List.mem_map.1 hr
    rw [rowOf_len]; unfold maxLen; omega
theorem tab_zero : tabV [(Vc.zero, ⟨none, 0, none, 0, none, 0⟩)] = ([], 1) := by rfl

set_option maxHeartbeats 4000000 in
theorem law_tables (a : Option Addr) (c : Nat) (Cs : List (Vc × Sl)) (w : World) (hl : Cs.length ≤ 1048576) (hs : ∀ c ∈ Cs, small c.1) (ha : ColsAt w a Cs) :
    Calls Try.prog 5 #[.slice a Cs.length c] w fun e w' => e = .returned (.bool true) ∧ Below w.heap.size w w' := by
  have hn0 : len0 Cs ≤ 1048576 := by
    cases Cs with
    | nil => simp [len0]
    | cons d l => exact (hs d (by simp)).1
  obtain ⟨t1, t2⟩ := tab_fit Cs hl hn0
  have HF1 := hide t1
  have HF2 := hide t2
  have H25 := hide (table_any a c Cs w hl hs ha)
  have H26 : Hid (∀ w', Below w.heap.size w w' → Calls Try.prog 26 #[.slice a Cs.length c] w' fun e w'' => ∃ v, e = .returned (.tuple #[v, .int .i64 (tabV Cs).2]) ∧ RowsV w'' v (tabV Cs).1 ∧ Below w'.heap.size w' w'') := fun w' hb => across_any a c Cs w' hl hs (ha.later hb)
  have H0 : Hid (∀ (w' : World) (b : Nat), ColAt w' b 0 Vc.zero ⟨none, 0, none, 0, none, 0⟩ → Calls Try.prog 25 #[.slice (some ⟨b, 0, none⟩) 1 1] w' fun e w'' => ∃ v, e = .returned (.tuple #[v, .int .i64 1]) ∧ RowsV w'' v [] ∧ Below w'.heap.size w' w'') := fun w' b h => by
    have := table_any (some ⟨b, 0, none⟩) 1 [(Vc.zero, ⟨none, 0, none, 0, none, 0⟩)] w' (by simp) (by intro c hc; simp at hc; subst hc; exact ⟨by simp [Vc.zero], by simp [Vc.zero], by simp [Vc.zero]⟩)
      ⟨.inr ⟨b, 0, rfl, fun i c hc => by
        match i, hc with
        | 0, hc => simp at hc; subst hc; simpa using h⟩, by intro c hc; simp at hc; subst hc; exact ⟨.inl rfl, .inl rfl, .inl rfl⟩⟩
    rw [tab_zero] at this
    exact this
  obtain ⟨e1, e2⟩ := tab_err Cs
  generalize tabV Cs = T at H25 H26 HF1 HF2 e1 e2
  obtain ⟨rs, er⟩ := T
  simp only at H25 H26 HF1 HF2 e1 e2
  clear hs ha hn0 t1 t2
  go_enter Try.func5, Try.ntmps5
  go_wp2_with (first
    | (go_at_call_of 25 (Value.slice a Cs.length c); refine (unhide H25).mono ?_; rintro e w1 ⟨v1, rfl, hr1, hb1⟩)
    | (go_at_call 26; refine (unhide H26 _ hb1).mono ?_; rintro e w2 ⟨v2, rfl, hr2, hb2⟩; have hB2 := below_step hb1 hb2; have hr12 := hr1.later hb2; obtain ⟨a1, c1, rfl, k1⟩ := hr12; obtain ⟨a2, c2, rfl, k2⟩ := hr2)
    | (go_at_call 25; refine (unhide H0 _ w2.heap.size ⟨by simp [go_sem, Vc.zero], by simp [go_sem, Vc.zero], by simp [go_sem, Vc.zero], by simp [go_sem, Vc.zero]⟩).mono ?_; rintro e w3 ⟨v3, rfl, hr3, hb3⟩; have hB3 := below_step (below_alloc hB2 _) hb3; have k13 := (k1.later (below_alloc (Below.refl _ _) _)).later hb3; have k23 := (k2.later (below_alloc (Below.refl _ _) _)).later hb3; obtain ⟨a3, c3, rfl, _⟩ := hr3)
    | (go_at_call_of 8 (Value.int IntKind.i64 er); refine (num_any _ _ ⟨e1, e2⟩).mono ?_; rintro e w8 ⟨rfl, rfl⟩)
    | (go_at_call 8; refine (num_any _ _ ⟨by decide, by decide⟩).mono ?_; rintro e w8 ⟨rfl, rfl⟩)
    | (go_at_call 27; refine (samerows_same a1 a2 c1 c2 rs _ (unhide HF1) (unhide HF2) k13 k23).mono ?_; rintro e w4 ⟨rfl, hb4⟩))
  go_ret
  exact ⟨rfl, below_step hB3 hb4⟩
end Go.Proofs.Ytifohbapfciniab
