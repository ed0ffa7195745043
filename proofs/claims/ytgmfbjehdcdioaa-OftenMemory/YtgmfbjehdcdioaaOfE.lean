import Derived.Test.YtgmfbjehdcdioaaOfD
set_option linter.unusedSimpArgs false
set_option linter.unusedVariables false
namespace Go.Proofs.Ytgmfbjehdcdioaa
open Go.RowKit Go.Sort

/-- What a swap leaves. -/
def SwA (w : World) (b : Nat) (S : Value) (n : Nat) (E : Nat → Nat × Cn) (i j : Nat) (w' : World) : Prop := Qu w' b S n (sw E i j) ∧ Ky (fq S n E) w w' ∧ ∀ k, fq S n (sw E i j) k → fq S n E k

set_option maxHeartbeats 1000000 in
set_option maxRecDepth 100000 in
theorem swap_ne {w : World} {b n : Nat} {S : Value} {E : Nat → Nat × Cn} (h : Qu w b S n E) {i j : Nat} (hi : i < n) (hj : j < n) (hn : n ≤ 2000) (hb : ∀ k, fq S n E k → k ≠ b) (hij : i ≠ j) :
    Calls Try.prog 95 #[S, .int .i64 i, .int .i64 j] w fun e w' => e = .returned (.tuple #[]) ∧ SwA w b S n E i j w' := by
  obtain ⟨lb, cap, hS⟩ := h.slice (by omega)
  have hfin := h.swapped hS hi hj hb
  obtain ⟨c1, f1⟩ := h.at hS hi
  obtain ⟨c2, f2⟩ := h.at hS hj
  have c3 := (h.ctr i hi).cell (i := 5) (by omega)
  have c4 := (h.ctr j hj).cell (i := 5) (by omega)
  have f3 := (h.ctr i hi).frozen 5
  have f4 := (h.ctr j hj).frozen 5
  have n1 := h.lb_ne hS hi
  have n2 := h.lb_ne hS hj
  have n3 : (E i).1 ≠ (E j).1 := fun e => hij (h.nod i j hi hj e)
  simp only [pv] at hfin
  obtain ⟨p, hp⟩ : ∃ p, (E i).1 = p := ⟨_, rfl⟩
  obtain ⟨q, hq⟩ : ∃ q, (E j).1 = q := ⟨_, rfl⟩
  rw [hp, hq] at hfin n3
  rw [hp] at c1 c3 f3 n1
  rw [hq] at c2 c4 f4 n2
  have HF := hide hfin
  rw [hS]
  have i1 : (i : Int) < (n : Int) := by omega
  have i2 : (j : Int) < (n : Int) := by omega
  have hji : ¬ j = i := fun e => hij e.symm
  have m1 : ¬ p = lb := n1
  have m2 : ¬ q = lb := n2
  have m3 : ¬ p = q := n3
  have m4 : ¬ lb = p := fun e => n1 e.symm
  have m5 : ¬ lb = q := fun e => n2 e.symm
  have m6 : ¬ q = p := fun e => n3 e.symm
  clear h hfin hp hq hb n1 n2 n3
  go_enter Try.func95, Try.ntmps95
  go_upto_region 0 with fail
  go_region_law (fail)
  all_goals
    go_upto_region 1 with fail
    go_region_law (fail)
    all_goals
      go_wp2
      go_end0
      rw [← hS]
      exact ⟨rfl, (unhide HF).1.later (Below.refl _ _).drew.drew, (unhide HF).2.1.trans (Ky.of_below (F := fq S n E) (Below.refl _ _).drew.drew) (fun k hk => .inl hk), (unhide HF).2.2⟩

set_option maxHeartbeats 1000000 in
set_option maxRecDepth 100000 in
theorem swap_eq {w : World} {b n : Nat} {S : Value} {E : Nat → Nat × Cn} (h : Qu w b S n E) {i : Nat} (hi : i < n) (hn : n ≤ 2000) (hb : ∀ k, fq S n E k → k ≠ b) :
    Calls Try.prog 95 #[S, .int .i64 i, .int .i64 i] w fun e w' => e = .returned (.tuple #[]) ∧ SwA w b S n E i i w' := by
  obtain ⟨lb, cap, hS⟩ := h.slice (by omega)
  have hfin := h.swapped hS hi hi hb
  obtain ⟨c1, f1⟩ := h.at hS hi
  have c3 := (h.ctr i hi).cell (i := 5) (by omega)
  have f3 := (h.ctr i hi).frozen 5
  have n1 := h.lb_ne hS hi
  simp only [pv] at hfin
  obtain ⟨p, hp⟩ : ∃ p, (E i).1 = p := ⟨_, rfl⟩
  rw [hp] at hfin
  rw [hp] at c1 c3 f3 n1
  have HF := hide hfin
  rw [hS]
  have i1 : (i : Int) < (n : Int) := by omega
  have m1 : ¬ p = lb := n1
  have m4 : ¬ lb = p := fun e => n1 e.symm
  clear h hfin hp hb n1
  go_enter Try.func95, Try.ntmps95
  go_upto_region 0 with fail
  go_region_law (fail)
  all_goals
    go_upto_region 1 with fail
    go_region_law (fail)
    all_goals
      go_wp2
      go_end0
      rw [← hS]
      exact ⟨rfl, (unhide HF).1.later (Below.refl _ _).drew.drew, (unhide HF).2.1.trans (Ky.of_below (F := fq S n E) (Below.refl _ _).drew.drew) (fun k hk => .inl hk), (unhide HF).2.2⟩
theorem swap_any {w : World} {b n : Nat} {S : Value} {E : Nat → Nat × Cn} (h : Qu w b S n E) {i j : Nat} (hi : i < n) (hj : j < n) (hn : n ≤ 2000) (hb : ∀ k, fq S n E k → k ≠ b) :
    Calls Try.prog 95 #[S, .int .i64 i, .int .i64 j] w fun e w' => e = .returned (.tuple #[]) ∧ SwA w b S n E i j w' := by
  by_cases e : i = j
  · subst e; exact swap_eq h hi hn hb
  · exact swap_ne h hi hj hn hb e
end Go.Proofs.Ytgmfbjehdcdioaa
