import Derived.Test.YtcbenpodohjbiaaGreatSpW
set_option linter.unusedSimpArgs false
set_option linter.unusedVariables false
set_option maxRecDepth 100000
namespace Go.Proofs.YtcbenpodohjbiaaGreat
open Go.RowKit Go.Sort

/-- isWorkable (15). -/
theorem work_any (b : Int) (p : Option Addr) (w : World) :
    Calls Tryz.prog 15 #[.int .i64 b, .iface 24 (.pointer p), .iface 24 (.pointer p)] w fun e w' => e = .returned (.bool (decide (4 ≤ b) && decide (b ≤ 65536))) ∧ w' = w := by
  have q : ∀ w : World, (binOp .neq 46 (.iface 24 (.pointer p)) .nilIface).run Tryz.prog w = .ok (.bool true) w := fun _ => by kernel_rfl
  have q2 : ∀ w : World, (binOp .neq 48 (.iface 24 (.pointer p)) .nilIface).run Tryz.prog w = .ok (.bool true) w := fun _ => by kernel_rfl
  by_cases h : 4 ≤ b
  · have h1 : decide (4 ≤ b) = true := by simpa using h
    go_enter Tryz.func15, Tryz.ntmps15
    go_wp2
    go_ret
    exact ⟨by simp [h], rfl⟩
  · have h1 : decide (4 ≤ b) = false := by simpa using h
    go_enter Tryz.func15, Tryz.ntmps15
    go_wp2
    go_ret
    exact ⟨by simp [h], rfl⟩
/-- A yard of which nothing was asked. -/
def Yv.new (rf cd : Int) : Yv := ⟨0, 0, 0, 0, rf, cd, false, [], [], []⟩
/-- plain.New (5). -/
theorem pnew_any (rf cd : Int) (w : World) : Calls Tryz.prog 5 #[.int .i64 rf, .int .i64 cd] w fun e w' => e = .returned (.pointer (some ⟨w.heap.size, 0, none⟩)) ∧ Below w.heap.size w w' ∧ Py w' w.heap.size (Yv.new rf cd) none (fun k => k = w.heap.size) ∧ w'.heap.size = w.heap.size + 1 := by
  go_enter Tryz.func5, Tryz.ntmps5
  go_wp2
  go_ret
  refine ⟨rfl, below_alloc (Below.refl _ _) _, ⟨rfl, .slice none 0 0, .slice none 0 0, .slice none 0 0, [], ⟨⟨_, _, heap_alloc_new _ _⟩, fun i => by simp [go_sem], ?_, ?_, ?_, ?_, ?_, ?_, ?_, ?_, ?_, ?_, ?_⟩, ⟨Lst.nil _, fun g e => (by cases e), World.ownsRow_nil _ _ _ _, fun g e => (by cases e), rfl, World.ownsRow_nil _ _ _ _, fun g e => (by cases e), rfl, fun i u rs hu => by simp at hu, fun i j u u' g _ hu => by simp at hu⟩⟩, by simp⟩ <;> simp [go_sem, Yv.new]
/-- Stream (8). -/
theorem stream_any (b : Nat) (aR : Option Addr) (cR : Nat) (rs : List (List Val)) (w0 : Bs) (w : World) (hb : w0.Bel w) : Calls Tryz.prog 8 #[.pointer (some ⟨b, 0, none⟩), .slice aR rs.length cR] w fun e w' => e = .returned (.iface 66 (.pointer (some ⟨w.heap.size, 0, none⟩))) ∧ Below w.heap.size w w' ∧ Stm w0 w' w.heap.size b aR cR rs 0 ∧ w'.heap.size = w.heap.size + 1 := by
  go_enter Tryz.func8, Tryz.ntmps8
  go_wp2
  go_ret
  exact ⟨rfl, below_alloc (Below.refl _ _) _, ⟨⟨_, _, heap_alloc_new _ _⟩, fun i => by simp [go_sem], by simp [go_sem], by simp [go_sem], by simp [go_sem], hb.later (below_alloc (Below.refl _ w) _)⟩, by simp⟩
/-- yardOf (17). -/
theorem yardOf_any (b : Nat) (w : World) :
    Calls Tryz.prog 17 #[.iface 24 (.pointer (some ⟨b, 0, none⟩))] w fun e w' => e = .returned (.pointer (some ⟨w.heap.size + 1, 0, none⟩)) ∧ Sy w' (w.heap.size + 1) b w.heap.size [] ∧ Below w.heap.size w w' ∧ w'.heap.size = w.heap.size + 2 := by
  have hmm := @run_makeMap Tryz.prog
  go_enter Tryz.func17, Tryz.ntmps17
  go_wp2
  go_ret
  have e : w.heap.size + 1 = (w.alloc (.map #[] 0)).heap.size := by simp
  refine ⟨by simp, ⟨?_, ?_, ?_, #[], 0, ?_, ⟨rfl, fun x hx => by simp at hx, by simp⟩⟩, below_alloc (below_alloc (Below.refl _ _) _) _, by simp⟩
  · rw [e]; exact ⟨_, _, heap_alloc_new _ _⟩
  · rw [e]; simp [go_sem]
  · rw [e]; simp [go_sem]
  · rw [heap_alloc_old _ _ (by simp), heap_alloc_new]
/-- Refused (28). -/
theorem refused_any {F : Nat → Prop} {b : Nat} {Y : Yv} {op : Option Nat} {w : World} (h : Py w b Y op F) : Calls Tryz.prog 28 #[.pointer (some ⟨b, 0, none⟩)] w fun e w' => e = .returned (.bool Y.rd) ∧ w' = w := by
  obtain ⟨_, _, _, _, _, hB, _⟩ := h
  have c8 := hB.c8
  clear hB
  go_enter Tryz.func28, Tryz.ntmps28
  go_wp2
  go_ret
  exact ⟨rfl, rfl⟩
/-- mostAtOnce (64). -/
theorem mostAtOnce_any {w : World} {q y B : Nat} {bu : Int} {o : Bool} {vS : Value} (h : Qx w q y B (bu, o) vS) (h1 : 4 ≤ bu) (h2 : bu ≤ 65536) : Calls Tryz.prog 64 #[.pointer (some ⟨q, 0, none⟩)] w fun e w' => e = .returned (.int .i64 (bu - 1)) ∧ w' = w := by
  have c3 := h.c3
  have ew : IntKind.i64.wrap (bu - 1) = bu - 1 := IntWalk.i64_in _ (by omega)
  clear h
  go_enter Tryz.func64, Tryz.ntmps64
  go_wp2
  go_ret
  exact ⟨rfl, rfl⟩
/-- inOrder (18). -/
theorem inOrder_any (aK : Option Addr) (n c : Nat) (w : World) : Calls Tryz.prog 18 #[.slice aK n c] w fun e w' => e = .returned (.func (.func 32) #[] #[.pointer (some ⟨w.heap.size, 0, none⟩)]) ∧ w'.cell? ⟨w.heap.size, 0, none⟩ = some (.slice aK n c) ∧ Tg 23 w' w.heap.size ∧ Below w.heap.size w w' ∧ w'.heap.size = w.heap.size + 1 := by
  go_enter Tryz.func18, Tryz.ntmps18
  go_wp2
  go_ret
  exact ⟨rfl, by simp [go_sem], ⟨_, _, heap_alloc_new _ _⟩, below_alloc (Below.refl _ _) _, by simp⟩
end Go.Proofs.YtcbenpodohjbiaaGreat
set_option linter.unusedSimpArgs false
set_option linter.unusedVariables false
set_option maxRecDepth 100000
namespace Go.Proofs.YtcbenpodohjbiaaGreat
open Go.RowKit Go.Sort

set_option maxHeartbeats 2000000 in
/-- Left (27), where no run is there. -/
theorem left_any {F : Nat → Prop} {b : Nat} {Y : Yv} {op : Option Nat} {w : World} (h : Py w b Y op F) (hn : Y.there.length ≤ 1048576) (hf : ∀ t ∈ Y.there, t = false) : Calls Tryz.prog 27 #[.pointer (some ⟨b, 0, none⟩)] w fun e w' => e = .returned (.int .i64 0) ∧ w' = w := by
  obtain ⟨_, vO, vR, vT, us, hB, hl⟩ := h
  obtain ⟨aT, cT, rfl⟩ := own_form hl.t
  have c10 := hB.c10
  have HL := hide hl
  have HF := hide hf
  clear hB hl hf
  go_enter Tryz.func27, Tryz.ntmps27
  go_wp2_with fail
  go_loopw [3, 4] (fun s3 s4 wr => s3 = .int .i64 0 ∧ ∃ k : Nat, k ≤ Y.there.length ∧ s4 = .int .i64 (k : Int) ∧ wr = w) (fun _ s4 _ => Y.there.length - (intOf s4).toNat)
  case atStart => exact ⟨rfl, 0, Nat.zero_le _, rfl, rfl⟩
  case round =>
    obtain ⟨rfl, k, hk, rfl, rfl⟩ := hrel
    by_cases hlt : k < Y.there.length
    · have h9 : (k : Int) < (Y.there.length : Int) := by omega
      obtain ⟨t, hx⟩ : ∃ t, Y.there[k]? = some t := ⟨_, List.getElem?_eq_getElem hlt⟩
      have ht := unhide HF t (List.mem_of_getElem? hx)
      subst ht
      obtain ⟨gT, cT', ev, c1, _, _⟩ := (unhide HL).tx hx
      injection ev with ev1 _ ev3
      subst ev1 ev3
      clear hx
      go_wp2
      go_roundw
      case rel => exact ⟨rfl, k + 1, by omega, by go_num, trivial⟩
      case measure => simp [intOf]; omega
    · have h9 : ¬ (k : Int) < (Y.there.length : Int) := by omega
      go_wp2
      go_ret
      exact ⟨rfl, rfl⟩
/-- budgetOK (23). -/
theorem budgetOK_any (n : Int) (w : World) : Calls Tryz.prog 23 #[.int .i64 n] w fun e w' => e = .returned (.bool (decide (4 ≤ n) && decide (n ≤ 65536))) ∧ w' = w := by
  by_cases h : 4 ≤ n
  · have h1 : decide (4 ≤ n) = true := by simpa using h
    go_enter Tryz.func23, Tryz.ntmps23
    go_wp2
    go_ret
    exact ⟨by simp [h], rfl⟩
  · have h1 : decide (4 ≤ n) = false := by simpa using h
    go_enter Tryz.func23, Tryz.ntmps23
    go_wp2
    go_ret
    exact ⟨by simp [h], rfl⟩
set_option maxHeartbeats 2000000 in
/-- PutsOf (11). -/
theorem putsOf_any (n d : Nat) (w : World) (hn : n ≤ 1048576) (hd : 3 ≤ d) (hd2 : (d : Int) + 1 ≤ 9223372036854775807) : Calls Tryz.prog 11 #[.int .i64 (n : Int), .int .i64 ((d : Int) + 1)] w fun e w' => (∃ k : Nat, e = .returned (.int .i64 ((n * k : Nat) : Int)) ∧ n ≤ d ^ (k + 1) ∧ k ≤ 20 ∧ (k = 0 ∨ d ^ k < n)) ∧ w' = w := by
  have ew : IntKind.i64.wrap ((d : Int) + 1 - 1) = (d : Int) := by rw [IntWalk.i64_in _ (by omega)]; omega
  have es : (d : Int) + 1 - 1 = (d : Int) := by omega
  go_enter Tryz.func11, Tryz.ntmps11
  go_wp2_with fail
  go_loopw [5, 6] (fun s5 s6 wr => ∃ k : Nat, s5 = .int .i64 (k : Int) ∧ s6 = .int .i64 ((d ^ (k + 1) : Nat) : Int) ∧ k ≤ 20 ∧ (k = 0 ∨ d ^ k < n) ∧ wr = w) (fun s5 _ _ => 20 - (intOf s5).toNat)
  case atStart => exact ⟨0, rfl, by simp, by omega, .inl rfl, rfl⟩
  case round =>
    obtain ⟨k, rfl, rfl, hk, hkn, rfl⟩ := hrel
    have HK := hide hkn
    by_cases hlt : d ^ (k + 1) < n
    · have h9 : ((d ^ (k + 1) : Nat) : Int) < (n : Int) := by omega
      have h3k : 3 ^ (k + 1) ≤ d ^ (k + 1) := Nat.pow_le_pow_left hd _
      have hk2 : k < 20 := by
        rcases Nat.lt_or_ge k 20 with q | q
        · exact q
        · exfalso
          have : 3 ^ 21 ≤ 3 ^ (k + 1) := Nat.pow_le_pow_right (by omega) (by omega)
          have e : (3 : Nat) ^ 21 = 10460353203 := by decide
          omega
      have hdn : d < n := by
        have : d ^ 1 ≤ d ^ (k + 1) := Nat.pow_le_pow_right (by omega) (by omega)
        simp at this
        omega
      have hmul : d ^ (k + 1) * d = d ^ (k + 1 + 1) := (Nat.pow_succ _ _).symm
      have hbig : d ^ (k + 1 + 1) ≤ 1048576 * 1048576 := by rw [← hmul]; exact Nat.mul_le_mul (by omega) (by omega)
      have em : ((d ^ (k + 1) : Nat) : Int) * (d : Int) = ((d ^ (k + 1 + 1) : Nat) : Int) := by rw [← hmul]; push_cast; rfl
      have ewm : IntKind.i64.wrap (((d ^ (k + 1) : Nat) : Int) * (d : Int)) = ((d ^ (k + 1 + 1) : Nat) : Int) := by rw [em, IntWalk.i64_in _ (by omega)]
      have HLT := hide hlt
      generalize hP : d ^ (k + 1) = P at *
      generalize hQ : d ^ (k + 1 + 1) = Q at *
      have HP := hide hP
      have HQ := hide hQ
      clear em hmul h3k hlt hkn hP hQ
      go_wp2
      go_roundw
      case rel => exact ⟨k + 1, by go_num, by rw [unhide HQ], by omega, .inr (by rw [unhide HP]; exact unhide HLT), trivial⟩
      case measure => simp [intOf]; omega
    · have h9 : ¬ ((d ^ (k + 1) : Nat) : Int) < (n : Int) := by omega
      have HLT := hide hlt
      have hbn : n * k ≤ 1048576 * 20 := Nat.mul_le_mul hn hk
      have em : (n : Int) * (k : Int) = ((n * k : Nat) : Int) := by push_cast; rfl
      have ewm : IntKind.i64.wrap ((n : Int) * (k : Int)) = ((n * k : Nat) : Int) := by rw [em, IntWalk.i64_in _ (by omega)]
      generalize hP : d ^ (k + 1) = P at *
      have HP := hide hP
      clear em hlt hkn hP
      go_wp2
      go_ret
      have q := unhide HLT
      exact ⟨⟨k, rfl, by rw [unhide HP]; omega, hk, unhide HK⟩, rfl⟩
end Go.Proofs.YtcbenpodohjbiaaGreat
