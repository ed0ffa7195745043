import Derived.Test.YtigceoehdofckaaGreatNiD
import Derived.Laws.EntriesVeiled
set_option linter.unusedSimpArgs false
set_option linter.unusedVariables false
namespace Go.Proofs.YtigceoehdofckaaGreat
open Go.RowKit

set_option maxRecDepth 100000 in
theorem once_yes (b s : Nat) (bu : Int) (w : World) (hi : inB bu = true) (h : Ys w b s) :
    Calls Tryz.prog 7 #[.iface 38 (.pointer (some ⟨s, 0, none⟩)), .int .i64 bu, .iface 22 (.pointer (some ⟨b, 0, none⟩)), .iface 22 (.pointer (some ⟨b, 0, none⟩))] w fun e w' => e = .returned (.int .i64 0) ∧ Sv b w w' := by
  have q1 : ∀ w : World, (binOp .eql 26 (.iface 38 (.pointer (some ⟨s, 0, none⟩))) .nilIface).run Tryz.prog w = .ok (.bool false) w := fun _ => by kernel_rfl
  have hk := work_any bu (some ⟨b, 0, none⟩) w
  unfold inB at hi
  rw [hi] at hk
  have lb : b < w.heap.size := World.block_lt_of_cell? _ _ h.y8
  have K : ∀ w1 y m w2 f, Yd w.heap.size w1 y m → Below w.heap.size w w1 → Below w1.heap.size w1 w2 → Calls Tryz.prog 15 #[.pointer (some ⟨w2.heap.size, 0, none⟩), .iface 38 (.pointer (some ⟨s, 0, none⟩)), .iface 62 (.agg #[.pointer (some ⟨y, 0, none⟩), .iface 22 (.pointer (some ⟨b, 0, none⟩))])] (w2.alloc (.cells #[.pointer (some ⟨y, 0, none⟩), .func (.func 20) #[] #[.pointer f], .bool true, .int .i64 bu, .slice none 0 0] 58)) fun e w' => e = .returned (.int .i64 0) ∧ Sv b w w' ∧ Yd w.heap.size w' y m := by
    intro w1 y m w2 f hY hb1 hb2
    have hA : Below w2.heap.size w2 (w2.alloc (.cells #[.pointer (some ⟨y, 0, none⟩), .func (.func 20) #[] #[.pointer f], .bool true, .int .i64 bu, .slice none 0 0] 58)) := (Below.refl _ _).alloc (Nat.le_refl _) _
    have hS : Sv b w (w2.alloc (.cells #[.pointer (some ⟨y, 0, none⟩), .func (.func 20) #[] #[.pointer f], .bool true, .int .i64 bu, .slice none 0 0] 58)) := ((Sv.of_below hb1).trans (Sv.of_below hb2)).trans (Sv.of_below hA)
    have l1 := hb1.size
    have l2 := hb2.size
    refine (sort_any b s w2.heap.size y bu _ _ (((h.later hb1).later hb2).later hA) ⟨by simp [go_sem], ⟨_, by simp [go_sem]; rfl⟩, by simp [go_sem], by simp [go_sem]⟩ (by omega)).mono ?_
    rintro e w' ⟨rfl, hs⟩
    exact ⟨rfl, hS.trans hs, ((hY.save (Sv.of_below (B := b) hb2) lb).save (Sv.of_below (B := b) hA) lb).save hs lb⟩
  go_enter Tryz.func7, Tryz.ntmps7
  go_wp2_with (first | (go_at_call 9; refine hk.mono ?_; rintro _ _ ⟨rfl, rfl⟩) | (go_at_call 11; refine (yardOf_any _ _).mono ?_; rintro _ w1 ⟨y, m, rfl, hY, hb1⟩) | (go_at_call 12; refine (inOrder_any w1).mono ?_; rintro _ w2 ⟨⟨f, rfl⟩, hb2⟩) | (go_at_call 15; refine (K w1 y m w2 f hY hb1 hb2).mono ?_; rintro _ w3 ⟨rfl, hs3, hY3⟩) | (go_at_call 14; refine (leave_any y m w3 hY3.c1 hY3.hm).mono ?_; rintro _ w4 ⟨rfl, hb4⟩))
  go_ret
  exact ⟨rfl, hs3.trans (Sv.of_below hb4)⟩

theorem once_any (b s : Nat) (bu : Int) (w : World) (h : Ys w b s) :
    Calls Tryz.prog 7 #[.iface 38 (.pointer (some ⟨s, 0, none⟩)), .int .i64 bu, .iface 22 (.pointer (some ⟨b, 0, none⟩)), .iface 22 (.pointer (some ⟨b, 0, none⟩))] w fun e w' => e = .returned (.int .i64 (if inB bu then 0 else 1)) ∧ Sv b w w' := by
  cases hi : inB bu
  · exact (once_no b s bu w hi).mono fun e w' ⟨he, hw⟩ => ⟨he, hw ▸ Sv.refl _ _⟩
  · exact once_yes b s bu w hi h

/-- A yard of which nothing was asked. -/
structure Yn (w : World) (b : Nat) : Prop where
  y8 : w.cell? ⟨b, 8, none⟩ = some (.bool false)
  y4 : w.cell? ⟨b, 4, none⟩ = some (.int .i64 0)
  y6 : w.cell? ⟨b, 6, none⟩ = some (.int .i64 0)
  yf : w.frozen? ⟨b, 4, none⟩ = false
set_option maxRecDepth 100000 in
theorem new_any (w : World) : Calls Tryz.prog 4 #[.int .i64 0, .int .i64 0] w fun e w' => e = .returned (.pointer (some ⟨w.heap.size, 0, none⟩)) ∧ Below w.heap.size w w' ∧ Yn w' w.heap.size := by
  go_enter Tryz.func4, Tryz.ntmps4
  go_wp2
  go_ret
  exact ⟨rfl, (Below.refl _ _).alloc (Nat.le_refl _) _, by simp [go_sem], by simp [go_sem], by simp [go_sem], by simp [go_sem]⟩
set_option maxRecDepth 100000 in
theorem stream_any (b : Nat) (w : World) (h : Yn w b) : Calls Tryz.prog 5 #[.pointer (some ⟨b, 0, none⟩), .slice none 0 0] w fun e w' => ∃ s, e = .returned (.iface 38 (.pointer (some ⟨s, 0, none⟩))) ∧ Below w.heap.size w w' ∧ Ys w' b s := by
  have lb : b < w.heap.size := World.block_lt_of_cell? _ _ h.y8
  go_enter Tryz.func5, Tryz.ntmps5
  go_wp2
  go_ret
  have hb : Below w.heap.size w (w.alloc (.cells #[.pointer (some ⟨b, 0, none⟩), .slice none 0 0, .int .i64 0] 40)) := (Below.refl _ _).alloc (Nat.le_refl _) _
  exact ⟨w.heap.size, rfl, hb, ⟨by omega, (hb.cell (p := ⟨b, 8, none⟩) lb).trans h.y8, (hb.cell (p := ⟨b, 4, none⟩) lb).trans h.y4, (hb.cell (p := ⟨b, 6, none⟩) lb).trans h.y6, (hb.frozen (p := ⟨b, 4, none⟩) lb).trans h.yf, by simp [go_sem], by simp [go_sem], by simp [go_sem]⟩⟩

theorem sort_nil (a r o : Value) (w : World) (p q : Option Addr) (h : (a, r, o) = (.nilIface, .iface 22 (.pointer p), .iface 22 (.pointer p)) ∨ (a, r, o) = (.iface 38 (.pointer q), .nilIface, .iface 22 (.pointer p)) ∨ (a, r, o) = (.iface 38 (.pointer q), .iface 22 (.pointer p), .nilIface)) :
    Calls Tryz.prog 6 #[a, .slice none 0 0, .int .i64 9, r, o] w fun e w' => e = .returned (.int .i64 1) ∧ w' = w := by
  rcases h with h | h | h <;> (injection h with e1 e2; injection e2 with e2 e3; subst e1 e2 e3)
  · exact sort1 p w
  · exact sort2 q p w
  · exact sort3 q p w
theorem once_nil (a r o : Value) (w : World) (p q : Option Addr) (h : (a, r, o) = (.nilIface, .iface 22 (.pointer p), .iface 22 (.pointer p)) ∨ (a, r, o) = (.iface 38 (.pointer q), .nilIface, .iface 22 (.pointer p)) ∨ (a, r, o) = (.iface 38 (.pointer q), .iface 22 (.pointer p), .nilIface)) :
    Calls Tryz.prog 7 #[a, .int .i64 9, r, o] w fun e w' => e = .returned (.int .i64 1) ∧ w' = w := by
  rcases h with h | h | h <;> (injection h with e1 e2; injection e2 with e2 e3; subst e1 e2 e3)
  · exact once1 p w
  · exact once2 q p w
  · exact once3 q p w
theorem pairs_nil (a b r o : Value) (w : World) (p q : Option Addr) (h : (a, b, r, o) = (.nilIface, .iface 38 (.pointer q), .iface 22 (.pointer p), .iface 22 (.pointer p)) ∨ (a, b, r, o) = (.iface 38 (.pointer q), .nilIface, .iface 22 (.pointer p), .iface 22 (.pointer p)) ∨ (a, b, r, o) = (.iface 38 (.pointer q), .iface 38 (.pointer q), .nilIface, .iface 22 (.pointer p)) ∨ (a, b, r, o) = (.iface 38 (.pointer q), .iface 38 (.pointer q), .iface 22 (.pointer p), .nilIface)) :
    Calls Tryz.prog 8 #[a, b, .slice none 0 0, .slice none 0 0, .int .i64 9, r, o] w fun e w' => e = .returned (.int .i64 1) ∧ w' = w := by
  rcases h with h | h | h | h <;> (injection h with e1 e2; injection e2 with e2 e3; injection e3 with e3 e4; subst e1 e2 e3 e4)
  · exact pairs1 q p w
  · exact pairs2 q p w
  · exact pairs3 q p w
  · exact pairs4 q p w

end Go.Proofs.YtigceoehdofckaaGreat
