import Derived.Test.YtmgnndbcbalafaaMdP
set_option linter.unusedSimpArgs false
set_option linter.unusedVariables false
namespace Go.Proofs.Ytmgnndbcbalafaa
open Go.RowKit Go.Sort

set_option maxHeartbeats 1000000 in
set_option maxRecDepth 100000 in
theorem law_bad (w : World) (c : Int) (sc ask : Value) (hc : okC c = false) :
    Calls Try.prog 3 #[.int .i64 c, sc, ask] w fun e w' => e = .returned (.bool true) ∧ Below w.heap.size w w' := by
  have K4 := hide (fun W => new_bad c W hc)
  go_enter Try.func3, Try.ntmps3
  go_wp2_with fail
  go_loopw [9] (fun s9 wr => s9 = .int .i64 0 ∧ Below w.heap.size w wr) (fun _ _ => 0)
  case atStart => exact ⟨rfl, below_alloc (below_alloc (Below.refl _ _) _) _⟩
  case round =>
    obtain ⟨rfl, hb⟩ := hrel
    simp only [okC, Bool.and_eq_false_iff, decide_eq_false_iff_not] at hc
    by_cases h1 : c < 2
    · go_wp2_with (go_at_call 4; refine (unhide K4 _).mono ?_; rintro _ _ ⟨rfl, rfl⟩)
      go_ret
      exact ⟨rfl, hb⟩
    by_cases h2 : 1024 < c
    · go_wp2_with (go_at_call 4; refine (unhide K4 _).mono ?_; rintro _ _ ⟨rfl, rfl⟩)
      go_ret
      exact ⟨rfl, hb⟩
    · have h3 : (c % 2 != 0) = true := by
        have : ¬ c % 2 = 0 := by omega
        simpa using this
      clear hc
      go_wp2_with (go_at_call 4; refine (unhide K4 _).mono ?_; rintro _ _ ⟨rfl, rfl⟩)
      go_ret
      exact ⟨rfl, hb⟩
end Go.Proofs.Ytmgnndbcbalafaa
