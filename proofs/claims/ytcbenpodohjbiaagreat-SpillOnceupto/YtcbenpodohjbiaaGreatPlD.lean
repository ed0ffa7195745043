import Derived.Test.YtcbenpodohjbiaaGreatPlA
import Derived.Maps.Own
import Derived.Maps.OwnOps
import Derived.Maps.Views
set_option linter.unusedSimpArgs false
set_option linter.unusedVariables false
namespace Go.Proofs.YtcbenpodohjbiaaGreat
open Go.RowKit Go.Sort

/-- Numbers in memory. -/
theorem IntsAt.getP {w : World} {a : Option Addr} {l : List Int} {i : Nat} {x : Int} (h : IntsAt w a l) (hx : l[i]? = some x) : ∃ b off, a = some ⟨b, off, none⟩ ∧ w.cell? ⟨b, off + i, none⟩ = some (.int .i64 x) := by
  rcases h with h | ⟨b, off, ha, h⟩
  · rw [h] at hx; simp at hx
  · exact ⟨b, off, ha, h i x hx⟩
/-- How often x stands among the first k. -/
def cntF {κ : Type} [DecidableEq κ] (xs : List κ) (k : Nat) (x : κ) : Int := ((xs.take k).count x : Int)
theorem nodup_step {κ : Type} [DecidableEq κ] {xs : List κ} {k : Nat} {x : κ} (h : xs[k]? = some x) (hn : (xs.take k).Nodup) : (cntF xs k x = 0 → (xs.take (k + 1)).Nodup) ∧ (¬ cntF xs k x = 0 → ¬ xs.Nodup) := by
  obtain ⟨h1, rfl⟩ := List.getElem?_eq_some_iff.1 h
  unfold cntF
  refine ⟨fun h0 => ?_, fun h0 hx => ?_⟩
  · rw [List.take_succ_eq_append_getElem h1, List.nodup_append]
    have : xs[k] ∉ xs.take k := by rw [← List.count_eq_zero]; omega
    refine ⟨hn, by simp, fun a ha b hb e => ?_⟩
    simp at hb
    subst hb; subst e
    exact this ha
  · have hm : xs[k] ∈ xs.take k := by
      rw [← List.count_pos_iff]
      omega
    have h2 : (xs.take (k + 1)).Nodup := hx.sublist (List.take_sublist _ _)
    rw [List.take_succ_eq_append_getElem h1, List.nodup_append] at h2
    exact h2.2.2 _ hm _ (by simp) rfl
end Go.Proofs.YtcbenpodohjbiaaGreat
