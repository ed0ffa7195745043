import Derived.Test.YtgmfbjehdcdioaaOgF
import Derived.Laws.OwnMore
set_option linter.unusedSimpArgs false
set_option linter.unusedVariables false
set_option maxRecDepth 100000
namespace Go.Proofs.Ytgmfbjehdcdioaa
open Go.RowKit Go.Sort

/-- append to a list of the call's own: in place, or in new memory, and then nothing that was there has changed. -/
theorem app_two {w : World} {base n m c : Nat} {S : Value} {xs ys : List Cn} (ty : TypeId) (ho : w.ownsRow base 47 5 S n (xs.flatMap c5)) (a : Addr) (hm : m = ys.length) (hc : ∀ j u, (ys.flatMap c5)[j]? = some u → w.cell? (a.add j) = some u) (hl : n + m ≤ 1048576) (hm0 : 0 < m) (hb : base ≤ w.heap.size) :
    ∃ S' w', (Builtin.append_ #[42, 42] ty #[S, .slice (some a) m c]).run Try.prog w = .ok S' w' ∧ w'.ownsRow base 47 5 S' (n + m) ((xs ++ ys).flatMap c5) ∧
      ((∃ g cap, S = .slice (some ⟨g, 0, none⟩) n cap ∧ S' = .slice (some ⟨g, 0, none⟩) (n + m) cap ∧ w.grownBy w' (some g)) ∨ ((∀ g, S'.ownBlock = some g → w.heap.size ≤ g) ∧ Below w.heap.size w w')) := by
  obtain ⟨i2, hi2, z20, z21, z22⟩ := info_parts Try.info47
  have hyl : (ys.flatMap c5).length = m * 5 := by rw [c5_len, hm]
  have hone : ∀ u ∈ ys.flatMap c5, u.oneCell' = true := fun u hu => by
    obtain ⟨y, _, hu⟩ := List.mem_flatMap.1 hu
    exact c5_one y u hu
  obtain ⟨S', w', hr, h2, h3, _, h5⟩ := run_append_own_at (P := Try.prog) (w := w) base 42 ty 47 i2 (.agg #[.int .i64 0, .int .i64 0, .string ⟨#[]⟩, .int .i64 0, .int .i64 0]) 5 48 Try.underlying42 hi2 z20 z21 z22 rfl (by decide) S n (xs.flatMap c5) ho a m c (ys.flatMap c5) hyl hc hone (by unfold maxLen; omega) (by omega) hb
  rw [← List.flatMap_append] at h2
  refine ⟨S', w', hr, h2, ?_⟩
  have hnew : ∀ v'' w'', (Builtin.append_ #[42, 42] ty #[S, .slice (some a) m c]).run Try.prog w = .ok v'' w'' → v''.ownBlock = some w.heap.size → Below w.heap.size w w'' → (∀ g, S'.ownBlock = some g → w.heap.size ≤ g) ∧ Below w.heap.size w w' := fun v'' w'' hr2 hv hbl => by
    rw [hr] at hr2
    injection hr2 with e1 e2
    subst e1 e2
    exact ⟨fun g hg => by rw [hv] at hg; injection hg with hg; omega, hbl⟩
  rcases id ho.2 with ⟨e, h0⟩ | ⟨g, cap, cur, e, hbg, hg, hnc, hcm, hcs, htake⟩
  · right
    subst e
    have hr2 := run_append_nil (P := Try.prog) w 42 ty 47 i2 _ Try.underlying42 hi2 z20 a m c (ys.flatMap c5) (by rw [z21]; exact hyl) hc hm0 (by omega) (by rw [z22]; omega)
    exact hnew _ _ hr2 rfl (below_alloc (Below.refl _ _).drew _)
  · by_cases hroom : n + m ≤ cap
    · left
      subst e
      obtain ⟨w2, hr2, _, hg2⟩ := run_append_fits (P := Try.prog) w base 42 ty 47 i2 5 Try.underlying42 hi2 z21 g n cap (xs.flatMap c5) ho a m c (ys.flatMap c5) hyl hc hone hroom
      rw [hr] at hr2
      injection hr2 with e1 e2
      subst e1 e2
      exact ⟨g, cap, rfl, rfl, hg2⟩
    · right
      subst e
      have holds := ho.cells (g := g) rfl
      have hr2 := run_append_grow (P := Try.prog) w 42 ty 47 i2 _ Try.underlying42 hi2 z20 ⟨g, 0, none⟩ n cap (xs.flatMap c5) (by rw [z21]; exact ho.1) holds a m c (ys.flatMap c5) (by rw [z21]; exact hyl) hc (by omega) (by omega) (growslice_fits (by omega) (by rw [z22]; omega))
      exact hnew _ _ hr2 rfl (below_alloc (Below.refl _ _).drew _)
end Go.Proofs.Ytgmfbjehdcdioaa
