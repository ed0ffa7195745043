import Derived.Test.YtdinkopfdnjpmaaLongM
set_option linter.unusedSimpArgs false
set_option linter.unusedVariables false
namespace Go.Proofs.Ytdinkopfdnjpmaa
open Go.RowKit Go.Sort

theorem six_boxes {w w' : World} {m n : Bool} {x y : Value} (hx : ∃ a l c, x = .slice a l c) (hy : ∃ a l c, y = .slice a l c)
    (h : Below ((((((w.alloc (.cells #[.bool m, x] 58)).alloc (.cells #[.bool n, y] 58)).alloc (.cells #[.bool false, .slice none 0 0] 58)).alloc (.cells #[.bool false, .slice none 0 0] 58)).alloc (.cells #[.bool false, .slice none 0 0] 58)).alloc (.cells #[.bool false, .slice none 0 0] 58)).heap.size ((((((w.alloc (.cells #[.bool m, x] 58)).alloc (.cells #[.bool n, y] 58)).alloc (.cells #[.bool false, .slice none 0 0] 58)).alloc (.cells #[.bool false, .slice none 0 0] 58)).alloc (.cells #[.bool false, .slice none 0 0] 58)).alloc (.cells #[.bool false, .slice none 0 0] 58)) w') :
    Below w.heap.size w w' ∧ Bx w' w.heap.size m x ∧ Bx w' (w.heap.size + 1) n y ∧ Bx w' (w.heap.size + 1 + 1) false (.slice none 0 0) ∧ Bx w' (w.heap.size + 1 + 1 + 1) false (.slice none 0 0) ∧ Bx w' (w.heap.size + 1 + 1 + 1 + 1) false (.slice none 0 0) ∧ Bx w' (w.heap.size + 1 + 1 + 1 + 1 + 1) false (.slice none 0 0) := by
  obtain ⟨h1, h2, h3, h4⟩ := three_boxes (w := w) (m := m) (n := n) (x := x) (y := y) (Below.refl _ _)
  have nb : ∀ (W : World), Bx (W.alloc (.cells #[.bool false, .slice none 0 0] 58)) W.heap.size false (.slice none 0 0) := fun W => ⟨box2_alloc W _ _, _, _, _, rfl⟩
  have ns : ∃ a l c, (Value.slice none 0 0) = .slice a l c := ⟨_, _, _, rfl⟩
  refine ⟨below_step (below_alloc (below_alloc (below_alloc h1 _) _) _) h, Bx.later (Bx.alloc (Bx.alloc (Bx.alloc ⟨h2, hx⟩ _) _) _) h, Bx.later (Bx.alloc (Bx.alloc (Bx.alloc ⟨h3, hy⟩ _) _) _) h, Bx.later (Bx.alloc (Bx.alloc (Bx.alloc ⟨h4, ns⟩ _) _) _) h, ?_, ?_, ?_⟩
  · have := Bx.later (((nb (((w.alloc (.cells #[.bool m, x] 58)).alloc (.cells #[.bool n, y] 58)).alloc (.cells #[.bool false, .slice none 0 0] 58))).alloc (.cells #[.bool false, .slice none 0 0] 58)).alloc (.cells #[.bool false, .slice none 0 0] 58)) h
    simpa using this
  · have := Bx.later ((nb ((((w.alloc (.cells #[.bool m, x] 58)).alloc (.cells #[.bool n, y] 58)).alloc (.cells #[.bool false, .slice none 0 0] 58)).alloc (.cells #[.bool false, .slice none 0 0] 58))).alloc (.cells #[.bool false, .slice none 0 0] 58)) h
    simpa using this
  · have := Bx.later (nb (((((w.alloc (.cells #[.bool m, x] 58)).alloc (.cells #[.bool n, y] 58)).alloc (.cells #[.bool false, .slice none 0 0] 58)).alloc (.cells #[.bool false, .slice none 0 0] 58)).alloc (.cells #[.bool false, .slice none 0 0] 58))) h
    simpa using this

end Go.Proofs.Ytdinkopfdnjpmaa
