import Derived.Test.YtnlibfoeonieiaaGreatProg
import Derived.WalkKit
import Derived.WalkSpells
import Derived.WalkLawsBesides
import Derived.StillTactics
import Derived.BigQuiet
import Derived.RowKit3
import Derived.Deep.DeepCutAuto
import Derived.Deep.WholeRow
set_option linter.unusedSimpArgs false
set_option linter.unusedVariables false
namespace Go.Proofs.YtnlibfoeonieiaaGreat
open Go.RowKit

theorem hide {p : Prop} (h : p) : Hid p := h
theorem unhide {p : Prop} (h : Hid p) : p := h

theorem below_alloc {W0 w' : World} (h : Below W0.heap.size W0 w') (o : Obj) : Below W0.heap.size W0 (w'.alloc o) := h.alloc h.size o

theorem new_any (w : World) : Calls Tryz.prog 5 #[.int .i64 0, .int .i64 0] w fun e w' => e = .returned (.pointer (some ⟨w.heap.size, 0, none⟩)) ∧ w'.cell? ⟨w.heap.size, 4, none⟩ = some (.int .i64 0) ∧ Below w.heap.size w w' := by
  go_enter Tryz.func5, Tryz.ntmps5
  go_wp2
  go_ret
  exact ⟨rfl, by simp, below_alloc (Below.refl _ w) _⟩

theorem shelved_none (w : World) : Calls Tryz.prog 4 #[.slice none 0 0, .int .i64 1] w fun e w' => e = .returned (.pointer (some ⟨w.heap.size, 0, none⟩)) ∧ w'.cell? ⟨w.heap.size, 5, none⟩ = some (.slice none 0 0) ∧ Below w.heap.size w w' := by
  go_enter Tryz.func4, Tryz.ntmps4
  go_wp2
  go_loop [20] (fun s => s = .int .i64 0) (fun _ => 0)
  case atStart => rfl
  case round =>
    subst hrel
    go_wp2
    go_ret
    exact ⟨rfl, by simp, below_alloc (Below.refl _ w) _⟩

theorem run1 (c0 c1 c2 c3 c4 c5 c6 c7 c8 c9 c10 : Value) (p : Option Addr) (w : World) :
    Calls Tryz.prog 6 #[.agg #[c0, c1, c2, c3, c4, c5, c6, c7, c8, c9, c10], .nilIface, .int .i64 9, .int .i64 9, .iface 31 (.pointer p), .iface 31 (.pointer p)] w fun e w' => e = .returned (.int .i64 1) ∧ Below w.heap.size w w' := by
  have q0 : ∀ w : World, (binOp .eql 61 .nilIface .nilIface).run Tryz.prog w = .ok (.bool true) w := fun _ => by kernel_rfl
  go_enter Tryz.func6, Tryz.ntmps6
  go_wp2
  go_ret
  exact ⟨rfl, below_alloc (Below.refl _ w) _⟩
theorem run2 (c0 c1 c2 c3 c4 c5 c6 c7 c8 c9 c10 : Value) (q p : Option Addr) (w : World) :
    Calls Tryz.prog 6 #[.agg #[c0, c1, c2, c3, c4, c5, c6, c7, c8, c9, c10], .iface 29 (.pointer q), .int .i64 9, .int .i64 9, .nilIface, .iface 31 (.pointer p)] w fun e w' => e = .returned (.int .i64 1) ∧ Below w.heap.size w w' := by
  have q0 : ∀ w : World, (binOp .eql 61 (.iface 29 (.pointer q)) .nilIface).run Tryz.prog w = .ok (.bool false) w := fun _ => by kernel_rfl
  have q1 : ∀ w : World, (binOp .eql 63 .nilIface .nilIface).run Tryz.prog w = .ok (.bool true) w := fun _ => by kernel_rfl
  go_enter Tryz.func6, Tryz.ntmps6
  go_wp2
  go_ret
  exact ⟨rfl, below_alloc (Below.refl _ w) _⟩

theorem run3 (c0 c1 c2 c3 c4 c5 c6 c7 c8 c9 c10 : Value) (q p : Option Addr) (w : World) :
    Calls Tryz.prog 6 #[.agg #[c0, c1, c2, c3, c4, c5, c6, c7, c8, c9, c10], .iface 29 (.pointer q), .int .i64 9, .int .i64 9, .iface 31 (.pointer p), .nilIface] w fun e w' => e = .returned (.int .i64 1) ∧ Below w.heap.size w w' := by
  have q0 : ∀ w : World, (binOp .eql 61 (.iface 29 (.pointer q)) .nilIface).run Tryz.prog w = .ok (.bool false) w := fun _ => by kernel_rfl
  have q1 : ∀ w : World, (binOp .eql 63 (.iface 31 (.pointer p)) .nilIface).run Tryz.prog w = .ok (.bool false) w := fun _ => by kernel_rfl
  have q2 : ∀ w : World, (binOp .eql 65 .nilIface .nilIface).run Tryz.prog w = .ok (.bool true) w := fun _ => by kernel_rfl
  go_enter Tryz.func6, Tryz.ntmps6
  go_wp2
  go_ret
  exact ⟨rfl, below_alloc (Below.refl _ w) _⟩

theorem run_nil (c0 c1 c2 c3 c4 c5 c6 c7 c8 c9 c10 s r o : Value) (q p : Option Addr) (h : (s = .nilIface ∧ r = .iface 31 (.pointer p) ∧ o = .iface 31 (.pointer p)) ∨ (s = .iface 29 (.pointer q) ∧ r = .nilIface ∧ o = .iface 31 (.pointer p)) ∨ (s = .iface 29 (.pointer q) ∧ r = .iface 31 (.pointer p) ∧ o = .nilIface)) (w : World) :
    Calls Tryz.prog 6 #[.agg #[c0, c1, c2, c3, c4, c5, c6, c7, c8, c9, c10], s, .int .i64 9, .int .i64 9, r, o] w fun e w' => e = .returned (.int .i64 1) ∧ Below w.heap.size w w' := by
  rcases h with ⟨rfl, rfl, rfl⟩ | ⟨rfl, rfl, rfl⟩ | ⟨rfl, rfl, rfl⟩
  · exact run1 _ _ _ _ _ _ _ _ _ _ _ _ _
  · exact run2 _ _ _ _ _ _ _ _ _ _ _ _ _ _
  · exact run3 _ _ _ _ _ _ _ _ _ _ _ _ _ _

theorem wpList_load_w {P : Program} {ops : Array Oper} {rest : List Oper} {o : Oper} {a : Act} {w : World} {Q : Exit → Act → World → Prop} (hg : Region.wanted o (yielded ops a.tmps) = true) (t : TypeId) (p : Operand) (hop : o.op = Op.load t p) (ad : Value) (hp : a.eval p = ad) (v : Value) (hrun : (Instr.loadAt t ad).run P w = .ok v w)
    (hK : wpList P ops Q rest (a.put o.dst v) w) : wpList P ops Q (o :: rest) a w := by
  refine wpList_step fun K hK' => ?_
  rw [if_pos hg]
  unfold Oper.wp
  simp only [execOp, hop, hp, Sem.run_bind, hrun, Result.andThen]
  exact hK' _ _ hK

/-- A plan's box. -/
def PlanAt (w : World) (b : Nat) (C : Array Value) : Prop := b < w.heap.size ∧ w.heap[b]? = some (.cells C 28 (0, 0))
theorem PlanAt.later {w w' : World} {b : Nat} {C : Array Value} (h : PlanAt w b C) (hb : Below w.heap.size w w') : PlanAt w' b C :=
  ⟨Nat.lt_of_lt_of_le h.1 hb.size, (hb.block b h.1).trans h.2⟩
theorem PlanAt.load {w : World} {b : Nat} {C : Array Value} (h : PlanAt w b C) (hn : C.size = 11) : (Instr.loadAt 28 (.pointer (some ⟨b, 0, none⟩))).run Tryz.prog w = .ok (.agg C) w := by
  simp only [Instr.loadAt, Instr.sureAddr, Sem.run_bind, Sem.run_pure, Result.andThen]
  exact run_loadVar_row (P := Tryz.prog) w b 28 28 C (0, 0) _ h.2 Tryz.underlying28 rfl (by rw [hn]; kernel_rfl)

set_option maxHeartbeats 2000000 in
set_option maxRecDepth 100000 in
theorem law_rn (c0 c1 c2 c3 c4 c5 c6 c7 c8 c9 c10 : Value) (w : World) :
    Calls Tryz.prog 3 #[.agg #[c0, c1, c2, c3, c4, c5, c6, c7, c8, c9, c10]] w fun e w' => e = .returned (.bool true) ∧ Below w.heap.size w w' := by
  have hB0 := below_alloc (Below.refl _ w) (.cells #[c0, c1, c2, c3, c4, c5, c6, c7, c8, c9, c10] 28)
  have HP : Hid (PlanAt (w.alloc (.cells #[c0, c1, c2, c3, c4, c5, c6, c7, c8, c9, c10] 28)) w.heap.size #[c0, c1, c2, c3, c4, c5, c6, c7, c8, c9, c10]) := ⟨by simp, heap_alloc_last w _⟩
  go_enter Tryz.func3, Tryz.ntmps3
  go_upto_region 3 with (first
    | (go_at_call 4; refine (shelved_none _).mono ?_; rintro _ w1 ⟨rfl, hs1, hb1⟩; have HP1 := hide ((unhide HP).later hb1); have HB1 := hide (hB0.trans (hb1.mono hB0.size)))
    | (go_at_call 5; refine (new_any _).mono ?_; rintro _ w2 ⟨rfl, hy2, hb2⟩; have hs2 := cell_later hb2 hs1; have HP2 := hide ((unhide HP1).later hb2); have HB2 := hide ((unhide HB1).trans (hb2.mono (unhide HB1).size)); have hl2 := (unhide HP2).load rfl))
  clear hs1 hb1 hb2 hB0 HP HP1 HB1
  simp at hs2
  go_wp2_with (first
    | (refine wpList_load_w ?_ 28 (.tmp 1) rfl (.pointer (some ⟨w.heap.size, 0, none⟩)) (by simp [Act.eval]) _ hl2 ?_; · simp [Region.wanted, yielded])
    | (go_at_call 6; refine (run_nil _ _ _ _ _ _ _ _ _ _ _ _ _ _ (some ⟨w.heap.size + 1, 0, none⟩) (some ⟨w1.heap.size, 0, none⟩) (by simp) _).mono ?_; rintro _ w3 ⟨rfl, hb3⟩; have hs3 := cell_later hb3 hs2; have hy3 := cell_later hb3 hy2; have HP3 := hide ((unhide HP2).later hb3); have HB3 := hide ((unhide HB2).trans (hb3.mono (unhide HB2).size)); have hl3 := (unhide HP3).load rfl; clear hl2 hs2 hy2 HP2 HB2 hb3; have hl2 := hl3; have hs2 := hs3; have hy2 := hy3; have HP2 := HP3; have HB2 := HB3; clear hl3 hs3 hy3 HP3 HB3))
  go_ret
  exact ⟨rfl, unhide HB2⟩
end Go.Proofs.YtnlibfoeonieiaaGreat
