import Derived.Test.YtigceoehdofckaaGreatNiB
set_option linter.unusedSimpArgs false
set_option linter.unusedVariables false
namespace Go.Proofs.YtigceoehdofckaaGreat
open Go.RowKit

theorem call_any (b : Nat) (w : World) (h8 : w.cell? ⟨b, 8, none⟩ = some (.bool false)) (h4 : w.cell? ⟨b, 4, none⟩ = some (.int .i64 0)) (h6 : w.cell? ⟨b, 6, none⟩ = some (.int .i64 0)) (hf : w.frozen? ⟨b, 4, none⟩ = false) :
    Calls Tryz.prog 137 #[.pointer (some ⟨b, 0, none⟩)] w fun e w' => e = .returned (.int .i64 0) ∧ Sv b w w' := by
  go_enter Tryz.func137, Tryz.ntmps137
  go_wp2
  go_region
  go_wp2
  go_ret
  exact ⟨rfl, ((Sv.refl _ _).set _ _).drew⟩

/-- A stream without rows, and its yard. -/
structure Ys (w : World) (b s : Nat) : Prop where
  ne : s ≠ b
  y8 : w.cell? ⟨b, 8, none⟩ = some (.bool false)
  y4 : w.cell? ⟨b, 4, none⟩ = some (.int .i64 0)
  y6 : w.cell? ⟨b, 6, none⟩ = some (.int .i64 0)
  yf : w.frozen? ⟨b, 4, none⟩ = false
  s0 : w.cell? ⟨s, 0, none⟩ = some (.pointer (some ⟨b, 0, none⟩))
  s1 : w.cell? ⟨s, 1, none⟩ = some (.slice none 0 0)
  s2 : w.cell? ⟨s, 2, none⟩ = some (.int .i64 0)
theorem Ys.later {w w' : World} {b s : Nat} (h : Ys w b s) (hb : Below w.heap.size w w') : Ys w' b s := by
  have l1 : b < w.heap.size := World.block_lt_of_cell? _ _ h.y8
  have l2 : s < w.heap.size := World.block_lt_of_cell? _ _ h.s0
  exact ⟨h.ne, (hb.cell (p := ⟨b, 8, none⟩) l1).trans h.y8, (hb.cell (p := ⟨b, 4, none⟩) l1).trans h.y4, (hb.cell (p := ⟨b, 6, none⟩) l1).trans h.y6, (hb.frozen (p := ⟨b, 4, none⟩) l1).trans h.yf, (hb.cell (p := ⟨s, 0, none⟩) l2).trans h.s0, (hb.cell (p := ⟨s, 1, none⟩) l2).trans h.s1, (hb.cell (p := ⟨s, 2, none⟩) l2).trans h.s2⟩

theorem next_any (b s : Nat) (w : World) (h : Ys w b s) :
    Calls Tryz.prog 139 #[.pointer (some ⟨s, 0, none⟩)] w fun e w' => e = .returned (.tuple #[.slice none 0 0, .bool false, .int .i64 0]) ∧ Sv b w w' := by
  have c0 := h.s0
  go_enter Tryz.func139, Tryz.ntmps139
  go_wp2_with (first | (go_at_call 137; refine (call_any b w h.y8 h.y4 h.y6 h.yf).mono ?_; rintro _ w1 ⟨rfl, hs⟩))
  have c1 := hs.cell h.s1 h.ne
  have c2 := hs.cell h.s2 h.ne
  go_region
  go_wp2
  exact bodyPost_ret (v := .tuple #[.slice none 0 0, .bool false, .int .i64 0]) (by simp [results, Tryz.results139, go_sem]) rfl ⟨rfl, hs.drew⟩

/-- The sorter of Once. -/
structure Sq (w : World) (q y : Nat) (bu : Int) : Prop where
  q0 : w.cell? ⟨q, 0, none⟩ = some (.pointer (some ⟨y, 0, none⟩))
  q1 : ∃ f, w.cell? ⟨q, 1, none⟩ = some f
  q2 : w.cell? ⟨q, 2, none⟩ = some (.bool true)
  q4 : w.cell? ⟨q, 4, none⟩ = some (.slice none 0 0)

theorem sorted_any (q y : Nat) (bu : Int) (w : World) (h : Sq w q y bu) :
    Calls Tryz.prog 46 #[.pointer (some ⟨q, 0, none⟩), .slice none 0 0] w fun e w' => e = .returned (.slice none 0 0) ∧ Below w.heap.size w w' := by
  obtain ⟨q0, ⟨f, q1⟩, q2, q4⟩ := h
  have hl := World.block_lt_of_cell? _ _ q0
  go_enter Tryz.func46, Tryz.ntmps46
  go_wp2_with (first | (go_at_call 77; refine (sortC _ _).mono ?_; rintro _ _ ⟨rfl, rfl⟩) | (go_at_call 78; refine (compact0 _ _).mono ?_; rintro _ _ ⟨rfl, rfl⟩) | (go_at_call 60; refine (letGo0 _ _).mono ?_; rintro _ _ ⟨rfl, rfl⟩))
  go_ret
  exact ⟨rfl, (Below.refl _ _).alloc (Nat.le_refl _) _⟩
end Go.Proofs.YtigceoehdofckaaGreat
