import Derived.Test.YtigceoehdofckaaGreatNiC
set_option linter.unusedSimpArgs false
set_option linter.unusedVariables false
namespace Go.Proofs.YtigceoehdofckaaGreat
open Go.RowKit

theorem Sq.save {w w' : World} {b q y : Nat} {bu : Int} (h : Sq w q y bu) (hs : Sv b w w') (hn : q ≠ b) : Sq w' q y bu :=
  ⟨hs.cell h.q0 hn, h.q1.imp fun f hf => hs.cell hf hn, hs.cell h.q2 hn, hs.cell h.q4 hn⟩

set_option maxRecDepth 100000 in
theorem gather_any (b s q y : Nat) (bu : Int) (w : World) (h : Ys w b s) (hq : Sq w q y bu) (hn : q ≠ b) :
    Calls Tryz.prog 26 #[.pointer (some ⟨q, 0, none⟩), .iface 38 (.pointer (some ⟨s, 0, none⟩))] w fun e w' => e = .returned (.tuple #[.slice none 0 0, .int .i64 0]) ∧ Sv b w w' := by
  have hm : ∀ w : World, (method 292 38 (.pointer (some ⟨s, 0, none⟩)) "Next").run Tryz.prog w = .ok (139, .pointer (some ⟨s, 0, none⟩)) w := fun _ => by kernel_rfl
  go_enter Tryz.func26, Tryz.ntmps26
  go_wp2
  go_loopw [4, 5, 6] (fun r e l wr => r = .slice none 0 0 ∧ e = .int .i64 0 ∧ l = .slice none 0 0 ∧ wr = w) (fun _ _ _ _ => 0)
  case atStart => exact ⟨rfl, rfl, rfl, rfl⟩
  case round =>
    obtain ⟨rfl, rfl, rfl, rfl⟩ := hrel
    go_wp2_with (first | (go_at_call 139; refine (next_any b s _ h).mono ?_; rintro _ w1 ⟨rfl, hs⟩) | (go_at_call 45; refine (own0 _).mono ?_; rintro _ _ ⟨rfl, rfl⟩) | (go_at_call 46; refine (sorted_any q y bu _ (hq.save hs hn)).mono ?_; rintro _ w2 ⟨rfl, hb2⟩))
    exact bodyPost_ret (v := .tuple #[.slice none 0 0, .int .i64 0]) (by simp [results, Tryz.results26, go_sem]) rfl ⟨rfl, hs.trans (Sv.of_below hb2)⟩

set_option maxRecDepth 100000 in
theorem sort_any (b s q y : Nat) (bu : Int) (t : Value) (w : World) (h : Ys w b s) (hq : Sq w q y bu) (hn : q ≠ b) :
    Calls Tryz.prog 15 #[.pointer (some ⟨q, 0, none⟩), .iface 38 (.pointer (some ⟨s, 0, none⟩)), t] w fun e w' => e = .returned (.int .i64 0) ∧ Sv b w w' := by
  go_enter Tryz.func15, Tryz.ntmps15
  go_wp2_with (first | (go_at_call 26; refine (gather_any b s q y bu _ h hq hn).mono ?_; rintro _ w1 ⟨rfl, hs⟩; have c4 := (hq.save hs hn).q4) | (go_at_call 27; refine (handOn0 _ _).mono ?_; rintro _ _ ⟨rfl, rfl⟩))
  go_ret
  exact ⟨rfl, hs⟩

set_option maxRecDepth 100000 in
theorem leave_any (y m : Nat) (w : World) (h1 : w.cell? ⟨y, 1, none⟩ = some (.map (some m))) (hm : w.heap[m]? = some (.map #[] 0)) :
    Calls Tryz.prog 14 #[.pointer (some ⟨y, 0, none⟩), .int .i64 0] w fun e w' => e = .returned (.int .i64 0) ∧ Below w.heap.size w w' := by
  have hrg := run_range_map (P := Tryz.prog) w 69 3 147 m #[] 0 Tryz.underlying69 hm
  have hnx : ∀ ty, (Instr.next (.pointer (some ⟨w.heap.size, 0, none⟩)) false ty).run Tryz.prog (w.alloc (.mapIter (some m) 0 #[] 0)) = .ok (.tuple #[.bool false]) (w.alloc (.mapIter (some m) 0 #[] 0)) := fun ty => by
    rcases run_next_map (P := Tryz.prog) w ty m 0 0 #[] #[] 0 hm (fun x hx => by simp at hx) (Nat.le_refl _) with ⟨_, h⟩ | ⟨e, he, _⟩
    · exact h
    · simp [leftOf] at he
  go_enter Tryz.func14, Tryz.ntmps14
  go_wp2
  go_loopw [5] (fun l wr => l = .slice none 0 0 ∧ wr = w.alloc (.mapIter (some m) 0 #[] 0)) (fun _ _ => 0)
  case atStart => exact ⟨rfl, rfl⟩
  case round =>
    obtain ⟨rfl, rfl⟩ := hrel
    go_wp2_with (first | (go_at_call 24; refine (sortO _).mono ?_; rintro _ _ ⟨rfl, rfl⟩))
    go_loopw [27, 1] (fun i e wr => i = .int .i64 0 ∧ e = .int .i64 0 ∧ wr = w.alloc (.mapIter (some m) 0 #[] 0)) (fun _ _ _ => 0)
    case atStart => exact ⟨rfl, rfl, rfl⟩
    case round =>
      obtain ⟨rfl, rfl, rfl⟩ := hrel
      go_wp2
      go_ret
      exact ⟨rfl, (Below.refl _ _).alloc (Nat.le_refl _) _⟩

/-- Once of a stream without rows. -/
def inB (bu : Int) : Bool := decide (4 ≤ bu) && decide (bu ≤ 65536)
set_option maxRecDepth 100000 in
theorem once_no (b s : Nat) (bu : Int) (w : World) (hi : inB bu = false) :
    Calls Tryz.prog 7 #[.iface 38 (.pointer (some ⟨s, 0, none⟩)), .int .i64 bu, .iface 22 (.pointer (some ⟨b, 0, none⟩)), .iface 22 (.pointer (some ⟨b, 0, none⟩))] w fun e w' => e = .returned (.int .i64 1) ∧ w' = w := by
  have q1 : ∀ w : World, (binOp .eql 26 (.iface 38 (.pointer (some ⟨s, 0, none⟩))) .nilIface).run Tryz.prog w = .ok (.bool false) w := fun _ => by kernel_rfl
  have hk := work_any bu (some ⟨b, 0, none⟩) w
  unfold inB at hi
  rw [hi] at hk
  go_enter Tryz.func7, Tryz.ntmps7
  go_wp2_with (first | (go_at_call 9; refine hk.mono ?_; rintro _ _ ⟨rfl, rfl⟩))
  go_ret
  exact ⟨rfl, rfl⟩

/-- A yard without runs, in blocks from n on. -/
structure Yd (n : Nat) (w : World) (y m : Nat) : Prop where
  c1 : w.cell? ⟨y, 1, none⟩ = some (.map (some m))
  hm : w.heap[m]? = some (.map #[] 0)
  ny : n ≤ y
  nm : n ≤ m
theorem Yd.save {n : Nat} {w w' : World} {y m b : Nat} (h : Yd n w y m) (hs : Sv b w w') (hb : b < n) : Yd n w' y m := by
  have h1 := h.ny
  have h2 := h.nm
  have l2 : m < w.heap.size := by
    rcases Nat.lt_or_ge m w.heap.size with g | g
    · exact g
    · have := h.hm; rw [Array.getElem?_eq_none g] at this; cases this
  exact ⟨hs.cell h.c1 (by omega), (hs.block m l2 (by omega)).trans h.hm, h1, h2⟩
set_option maxRecDepth 100000 in
theorem yardOf_any (p : Option Addr) (w : World) :
    Calls Tryz.prog 11 #[.iface 22 (.pointer p)] w fun e w' => ∃ y m, e = .returned (.pointer (some ⟨y, 0, none⟩)) ∧ Yd w.heap.size w' y m ∧ Below w.heap.size w w' := by
  have hmm := @run_makeMap Tryz.prog
  go_enter Tryz.func11, Tryz.ntmps11
  go_wp2
  go_ret
  refine ⟨w.heap.size + 1, w.heap.size, by simp, ⟨?_, ?_, by omega, Nat.le_refl _⟩, ((Below.refl _ _).alloc (Nat.le_refl _) _).alloc (by simp) _⟩
  · have e : w.heap.size + 1 = (w.alloc (.map #[] 0)).heap.size := by simp
    rw [e]
    simp [go_sem]
  · rw [heap_alloc_old _ _ (by simp), heap_alloc_new]
set_option maxRecDepth 100000 in
theorem inOrder_any (w : World) :
    Calls Tryz.prog 12 #[.slice none 0 0] w fun e w' => (∃ f, e = .returned (.func (.func 20) #[] #[.pointer f])) ∧ Below w.heap.size w w' := by
  go_enter Tryz.func12, Tryz.ntmps12
  go_wp2
  go_ret
  exact ⟨⟨_, rfl⟩, (Below.refl _ _).alloc (Nat.le_refl _) _⟩
end Go.Proofs.YtigceoehdofckaaGreat
