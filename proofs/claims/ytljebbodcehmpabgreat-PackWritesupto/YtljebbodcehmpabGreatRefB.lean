import Derived.Test.YtljebbodcehmpabGreatRefA
import Derived.Test.YtljebbodcehmpabGreatPackZ
set_option linter.unusedSimpArgs false
set_option linter.unusedVariables false
namespace Go.Proofs.YtljebbodcehmpabGreat
open Go.RowKit Go.Sort

set_option maxHeartbeats 4000000 in
set_option maxRecDepth 100000 in
theorem rwrite_bad (X : Vc) (p : Sl) (sch : Int) (w : World) (hs : small X) (hp : VecAt w X p) (hbad : badW X sch = true) :
    Calls Tryz.prog 6 #[vecV X p, .int .i64 sch] w fun e w' => e = .returned (.tuple #[.string ⟨#[]⟩, .int .i64 1]) ∧ Below w.heap.size w w' := by
  rw [vecV_open]
  have bl := below_alloc (Below.refl _ w) (.cells #[.int .i64 X.k, .slice p.a1 X.nl.length p.c1, .slice p.a2 X.ns.length p.c2, .slice p.a3 X.ss.length p.c3] 26)
  have HG := hide (rgood_any X p _ hs (hp.later bl))
  rw [vecV_open] at HG
  cases hg : goodB X
  · rw [hg] at HG
    clear hbad hg
    go_enter Tryz.func6, Tryz.ntmps6
    go_wp2_with (go_at_call 26; refine (unhide HG).mono ?_; rintro e w1 ⟨rfl, hb1⟩; obtain ⟨hc1, _⟩ := bcell hb1)
    refine bodyPost_ret (v := .tuple #[.string ⟨#[]⟩, .int .i64 1]) (by simp [results, Tryz.results6, go_sem]) rfl ⟨rfl, below_step bl hb1⟩
  · rw [hg] at HG
    simp only [badW, hg, Bool.not_true, Bool.false_or, Bool.or_eq_true, decide_eq_true_eq, Bool.and_eq_true, beq_iff_eq] at hbad
    have FACT : Hid (∀ w1, Below (w.alloc (.cells #[.int .i64 X.k, .slice p.a1 X.nl.length p.c1, .slice p.a2 X.ns.length p.c2, .slice p.a3 X.ss.length p.c3] 26)).heap.size (w.alloc (.cells #[.int .i64 X.k, .slice p.a1 X.nl.length p.c1, .slice p.a2 X.ns.length p.c2, .slice p.a3 X.ss.length p.c3] 26)) w1 → w1.cell? ⟨w.heap.size, 0, none⟩ = some (.int .i64 X.k) ∧ Hid (Below w.heap.size w w1)) := fun w1 hb1 => by
      obtain ⟨hc1, _⟩ := bcell hb1
      refine ⟨?_, below_step bl hb1⟩
      rw [hc1 _ _ (by simp)]; simp [go_sem]
    clear hg bl
    rcases hbad with (h | h) | ⟨h1, h2⟩
    · go_enter Tryz.func6, Tryz.ntmps6
      go_wp2_with (go_at_call 26; refine (unhide HG).mono ?_; rintro e w1 ⟨rfl, hb1⟩; obtain ⟨c0, hbb⟩ := unhide FACT _ hb1; clear hb1)
      refine bodyPost_ret (v := .tuple #[.string ⟨#[]⟩, .int .i64 1]) (by simp [results, Tryz.results6, go_sem]) rfl ⟨rfl, unhide hbb⟩
    · have h3 : ¬ sch < 1 := by omega
      go_enter Tryz.func6, Tryz.ntmps6
      go_wp2_with (go_at_call 26; refine (unhide HG).mono ?_; rintro e w1 ⟨rfl, hb1⟩; obtain ⟨c0, hbb⟩ := unhide FACT _ hb1; clear hb1)
      refine bodyPost_ret (v := .tuple #[.string ⟨#[]⟩, .int .i64 1]) (by simp [results, Tryz.results6, go_sem]) rfl ⟨rfl, unhide hbb⟩
    · subst h1
      rw [h2] at FACT HG
      rw [h2]
      clear h2
      go_enter Tryz.func6, Tryz.ntmps6
      go_wp2_with (go_at_call 26; refine (unhide HG).mono ?_; rintro e w1 ⟨rfl, hb1⟩; obtain ⟨c0, hbb⟩ := unhide FACT _ hb1; clear hb1)
      refine bodyPost_ret (v := .tuple #[.string ⟨#[]⟩, .int .i64 1]) (by simp [results, Tryz.results6, go_sem]) rfl ⟨rfl, unhide hbb⟩

set_option maxHeartbeats 8000000 in
set_option maxRecDepth 100000 in
theorem rwrite_large (X : Vc) (p : Sl) (sch : Int) (w : World) (hs : small X) (hp : VecAt w X p) (hbad : badW X sch = false) (hbig : 4096 < X.nl.length) :
    Calls Tryz.prog 6 #[vecV X p, .int .i64 sch] w fun e w' => e = .returned (.tuple #[.string ⟨#[]⟩, .int .i64 3]) ∧ Below w.heap.size w w' := by
  rw [vecV_open]
  have bl := below_alloc (Below.refl _ w) (.cells #[.int .i64 X.k, .slice p.a1 X.nl.length p.c1, .slice p.a2 X.ns.length p.c2, .slice p.a3 X.ss.length p.c3] 26)
  have HG := hide (rgood_any X p _ hs (hp.later bl))
  rw [vecV_open] at HG
  simp only [badW, Bool.or_eq_false_iff, Bool.not_eq_false', decide_eq_false_iff_not] at hbad
  obtain ⟨⟨⟨hg, h1⟩, h2⟩, h3⟩ := hbad
  rw [hg] at HG
  have HVL : Hid ((valsV X).length = X.nl.length) := vals_len hg
  have hnl : X.nl.length ≤ 1048576 := hs.1
  have FACT : Hid (∀ w1, Below (w.alloc (.cells #[.int .i64 X.k, .slice p.a1 X.nl.length p.c1, .slice p.a2 X.ns.length p.c2, .slice p.a3 X.ss.length p.c3] 26)).heap.size (w.alloc (.cells #[.int .i64 X.k, .slice p.a1 X.nl.length p.c1, .slice p.a2 X.ns.length p.c2, .slice p.a3 X.ss.length p.c3] 26)) w1 → (w1.cell? ⟨w.heap.size, 0, none⟩ = some (.int .i64 X.k) ∧ w1.cell? ⟨w.heap.size, 1, none⟩ = some (.slice p.a1 X.nl.length p.c1) ∧ w1.cell? ⟨w.heap.size, 2, none⟩ = some (.slice p.a2 X.ns.length p.c2) ∧ w1.cell? ⟨w.heap.size, 3, none⟩ = some (.slice p.a3 X.ss.length p.c3)) ∧ Hid (Below w.heap.size w w1)) := fun w1 hb1 => by
    obtain ⟨hc1, _⟩ := bcell hb1
    refine ⟨⟨?_, ?_, ?_, ?_⟩, below_step bl hb1⟩ <;> (rw [hc1 _ _ (by simp)]; simp [go_sem])
  have HV : Hid (∀ W, Hid (Below w.heap.size w W) → Calls Tryz.prog 15 #[.agg #[.int .i64 X.k, .slice p.a1 X.nl.length p.c1, .slice p.a2 X.ns.length p.c2, .slice p.a3 X.ss.length p.c3]] W fun e w' => ∃ a6 c6, e = .returned (.slice a6 X.nl.length c6) ∧ Hid (RowAt w' a6 (valsV X)) ∧ Hid (Below w.heap.size w w')) := fun W hW => by
    have := rvalues_any X p W hs (hp.later hW)
    rw [vecV_open] at this
    refine this.mono fun e w' ⟨v, he, h1, h2⟩ => ?_
    obtain ⟨a6, c6, rfl, _, _, hr⟩ := ownV_slice h1
    rw [vals_len hg] at he
    exact ⟨a6, c6, he, hr, below_step hW h2⟩
  have HST : Hid (∀ W a6 c6, Hid (RowAt W a6 (valsV X)) → Hid (Below w.heap.size w W) → Calls Tryz.prog 27 #[.slice a6 X.nl.length c6] W fun e w' => ∃ a7 c7, e = .returned (.slice a7 (standL (valsV X)).length c7) ∧ Hid (OwnV w' W.heap.size (.slice a7 (standL (valsV X)).length c7) (standL (valsV X))) ∧ Hid (Below w.heap.size w w')) := fun W a6 c6 hr hW => by
    have := stand_any a6 c6 (valsV X) W (by rw [vals_len hg]; exact hnl) hr
    rw [vals_len hg] at this
    refine this.mono fun e w' ⟨v, he, h1, h2⟩ => ?_
    obtain ⟨a7, c7, rfl, _, _, _⟩ := ownV_slice h1
    exact ⟨a7, c7, he, h1, below_step hW h2⟩
  have HUN : Hid (∀ W B a7 c7, Hid (OwnV W B (.slice a7 (standL (valsV X)).length c7) (standL (valsV X))) → Hid (Below w.heap.size w W) → Calls Tryz.prog 28 #[.slice a7 (standL (valsV X)).length c7] W fun e w' => ∃ S a8 c8, e = .returned (.slice a8 (unlT S S.length).length c8) ∧ Hid (S.Perm (standL (valsV X)) ∧ Rises S) ∧ Hid (RowAt w' a8 (unlT S S.length)) ∧ Hid (Below w.heap.size w w')) := fun W B a7 c7 ho hW => by
    refine (unlike_any B (standL (valsV X)) _ W (Nat.le_trans (stand_len _) (by rw [vals_len hg]; exact hnl)) ho).mono fun e w' ⟨S, v, he, h1, h2, h3⟩ => ?_
    obtain ⟨a8, c8, rfl, _, _, hr⟩ := ownV_slice h2
    exact ⟨S, a8, c8, he, h1, hr, below_step hW h3⟩
  have i1 : (4096 : Int) < (X.nl.length : Int) := by omega
  generalize (standL (valsV X)).length = NY at *
  clear hg bl hs hp
  have hc : ((sch == 4) = true ∧ (X.k == 2) = false) ∨ (sch == 4) = false := by
    rcases Bool.eq_false_or_eq_true (sch == 4) with e4 | e4
    · left; exact ⟨e4, by simpa [e4] using h3⟩
    · exact .inr e4
  clear h3
  rcases hc with ⟨e4, e5⟩ | e4
  all_goals
    go_enter Tryz.func6, Tryz.ntmps6
    go_wp2_with (first
      | (go_at_call 26; refine (unhide HG).mono ?_; rintro e w1 ⟨rfl, hb1⟩; obtain ⟨⟨c0, c1, c2, c3⟩, hbb⟩ := unhide FACT _ hb1; clear hb1)
      | (go_at_call 15; refine (unhide HV _ hbb).mono ?_; rintro e w2 ⟨a6, c6, rfl, R6, hb2⟩)
      | (go_at_call 27; refine (unhide HST _ _ _ R6 hb2).mono ?_; rintro e w3 ⟨a7, c7, rfl, R7, hb3⟩)
      | (go_at_call 28; refine (unhide HUN _ _ _ _ R7 hb3).mono ?_; rintro e w4 ⟨S, a8, c8, rfl, HS, R8, hb4⟩))
    refine bodyPost_ret (v := .tuple #[.string ⟨#[]⟩, .int .i64 3]) (by simp [results, Tryz.results6, go_sem]) rfl ⟨rfl, below_alloc (unhide hb4) _⟩
end Go.Proofs.YtljebbodcehmpabGreat
