import Derived.Test.YtigceoehdofckaaGreatProg
import Derived.WalkKit
import Derived.WalkSpells
import Derived.WalkLawsBesides
import Derived.StillTactics
import Derived.BigQuiet
import Derived.RowKit3
import Derived.Laws.IdiomRangeMap
set_option linter.unusedSimpArgs false
set_option linter.unusedVariables false
namespace Go.Proofs.YtigceoehdofckaaGreat
open Go.RowKit

theorem work_no1 (b : Int) (out : Value) (w : World) :
    Calls Tryz.prog 9 #[.int .i64 b, .nilIface, out] w fun e w' => e = .returned (.bool false) ∧ w' = w := by
  have q : ∀ w : World, (binOp .neq 43 .nilIface .nilIface).run Tryz.prog w = .ok (.bool false) w := fun _ => by kernel_rfl
  go_enter Tryz.func9, Tryz.ntmps9
  go_wp2
  go_ret
  exact ⟨rfl, rfl⟩

theorem work_no2 (b : Int) (p : Option Addr) (w : World) :
    Calls Tryz.prog 9 #[.int .i64 b, .iface 22 (.pointer p), .nilIface] w fun e w' => e = .returned (.bool false) ∧ w' = w := by
  have q : ∀ w : World, (binOp .neq 43 (.iface 22 (.pointer p)) .nilIface).run Tryz.prog w = .ok (.bool true) w := fun _ => by kernel_rfl
  have q2 : ∀ w : World, (binOp .neq 45 .nilIface .nilIface).run Tryz.prog w = .ok (.bool false) w := fun _ => by kernel_rfl
  go_enter Tryz.func9, Tryz.ntmps9
  go_wp2
  go_ret
  exact ⟨rfl, rfl⟩

theorem work_any (b : Int) (p : Option Addr) (w : World) :
    Calls Tryz.prog 9 #[.int .i64 b, .iface 22 (.pointer p), .iface 22 (.pointer p)] w fun e w' => e = .returned (.bool (decide (4 ≤ b) && decide (b ≤ 65536))) ∧ w' = w := by
  have q : ∀ w : World, (binOp .neq 43 (.iface 22 (.pointer p)) .nilIface).run Tryz.prog w = .ok (.bool true) w := fun _ => by kernel_rfl
  have q2 : ∀ w : World, (binOp .neq 45 (.iface 22 (.pointer p)) .nilIface).run Tryz.prog w = .ok (.bool true) w := fun _ => by kernel_rfl
  by_cases h : 4 ≤ b
  · have h1 : decide (4 ≤ b) = true := by simpa using h
    go_enter Tryz.func9, Tryz.ntmps9
    go_wp2
    go_ret
    exact ⟨by simp [h], rfl⟩
  · have h1 : decide (4 ≤ b) = false := by simpa using h
    go_enter Tryz.func9, Tryz.ntmps9
    go_wp2
    go_ret
    exact ⟨by simp [h], rfl⟩

theorem sort1 (p : Option Addr) (w : World) :
    Calls Tryz.prog 6 #[.nilIface, .slice none 0 0, .int .i64 9, .iface 22 (.pointer p), .iface 22 (.pointer p)] w fun e w' => e = .returned (.int .i64 1) ∧ w' = w := by
  have q0 : ∀ w : World, (binOp .eql 26 .nilIface .nilIface).run Tryz.prog w = .ok (.bool true) w := fun _ => by kernel_rfl
  go_enter Tryz.func6, Tryz.ntmps6
  go_wp2
  go_ret
  exact ⟨rfl, rfl⟩

theorem sort2 (q : Option Addr) (p : Option Addr) (w : World) :
    Calls Tryz.prog 6 #[.iface 38 (.pointer q), .slice none 0 0, .int .i64 9, .nilIface, .iface 22 (.pointer p)] w fun e w' => e = .returned (.int .i64 1) ∧ w' = w := by
  have q1 : ∀ w : World, (binOp .eql 26 (.iface 38 (.pointer q)) .nilIface).run Tryz.prog w = .ok (.bool false) w := fun _ => by kernel_rfl
  go_enter Tryz.func6, Tryz.ntmps6
  go_wp2_with (first | (go_at_call 9; refine (work_no1 _ _ _).mono ?_; rintro _ _ ⟨rfl, rfl⟩))
  go_ret
  exact ⟨rfl, rfl⟩

theorem sort3 (q : Option Addr) (p : Option Addr) (w : World) :
    Calls Tryz.prog 6 #[.iface 38 (.pointer q), .slice none 0 0, .int .i64 9, .iface 22 (.pointer p), .nilIface] w fun e w' => e = .returned (.int .i64 1) ∧ w' = w := by
  have q1 : ∀ w : World, (binOp .eql 26 (.iface 38 (.pointer q)) .nilIface).run Tryz.prog w = .ok (.bool false) w := fun _ => by kernel_rfl
  go_enter Tryz.func6, Tryz.ntmps6
  go_wp2_with (first | (go_at_call 9; refine (work_no2 _ _ _).mono ?_; rintro _ _ ⟨rfl, rfl⟩))
  go_ret
  exact ⟨rfl, rfl⟩

theorem once1 (p : Option Addr) (w : World) :
    Calls Tryz.prog 7 #[.nilIface, .int .i64 9, .iface 22 (.pointer p), .iface 22 (.pointer p)] w fun e w' => e = .returned (.int .i64 1) ∧ w' = w := by
  have q0 : ∀ w : World, (binOp .eql 26 .nilIface .nilIface).run Tryz.prog w = .ok (.bool true) w := fun _ => by kernel_rfl
  go_enter Tryz.func7, Tryz.ntmps7
  go_wp2
  go_ret
  exact ⟨rfl, rfl⟩

theorem once2 (q : Option Addr) (p : Option Addr) (w : World) :
    Calls Tryz.prog 7 #[.iface 38 (.pointer q), .int .i64 9, .nilIface, .iface 22 (.pointer p)] w fun e w' => e = .returned (.int .i64 1) ∧ w' = w := by
  have q1 : ∀ w : World, (binOp .eql 26 (.iface 38 (.pointer q)) .nilIface).run Tryz.prog w = .ok (.bool false) w := fun _ => by kernel_rfl
  go_enter Tryz.func7, Tryz.ntmps7
  go_wp2_with (first | (go_at_call 9; refine (work_no1 _ _ _).mono ?_; rintro _ _ ⟨rfl, rfl⟩))
  go_ret
  exact ⟨rfl, rfl⟩

theorem once3 (q : Option Addr) (p : Option Addr) (w : World) :
    Calls Tryz.prog 7 #[.iface 38 (.pointer q), .int .i64 9, .iface 22 (.pointer p), .nilIface] w fun e w' => e = .returned (.int .i64 1) ∧ w' = w := by
  have q1 : ∀ w : World, (binOp .eql 26 (.iface 38 (.pointer q)) .nilIface).run Tryz.prog w = .ok (.bool false) w := fun _ => by kernel_rfl
  go_enter Tryz.func7, Tryz.ntmps7
  go_wp2_with (first | (go_at_call 9; refine (work_no2 _ _ _).mono ?_; rintro _ _ ⟨rfl, rfl⟩))
  go_ret
  exact ⟨rfl, rfl⟩

theorem pairs1 (q : Option Addr) (p : Option Addr) (w : World) :
    Calls Tryz.prog 8 #[.nilIface, .iface 38 (.pointer q), .slice none 0 0, .slice none 0 0, .int .i64 9, .iface 22 (.pointer p), .iface 22 (.pointer p)] w fun e w' => e = .returned (.int .i64 1) ∧ w' = w := by
  have q0 : ∀ w : World, (binOp .eql 26 .nilIface .nilIface).run Tryz.prog w = .ok (.bool true) w := fun _ => by kernel_rfl
  go_enter Tryz.func8, Tryz.ntmps8
  go_wp2
  go_ret
  exact ⟨rfl, rfl⟩

theorem pairs2 (q : Option Addr) (p : Option Addr) (w : World) :
    Calls Tryz.prog 8 #[.iface 38 (.pointer q), .nilIface, .slice none 0 0, .slice none 0 0, .int .i64 9, .iface 22 (.pointer p), .iface 22 (.pointer p)] w fun e w' => e = .returned (.int .i64 1) ∧ w' = w := by
  have q0 : ∀ w : World, (binOp .eql 26 .nilIface .nilIface).run Tryz.prog w = .ok (.bool true) w := fun _ => by kernel_rfl
  have q1 : ∀ w : World, (binOp .eql 26 (.iface 38 (.pointer q)) .nilIface).run Tryz.prog w = .ok (.bool false) w := fun _ => by kernel_rfl
  go_enter Tryz.func8, Tryz.ntmps8
  go_wp2
  go_ret
  exact ⟨rfl, rfl⟩

theorem pairs3 (q : Option Addr) (p : Option Addr) (w : World) :
    Calls Tryz.prog 8 #[.iface 38 (.pointer q), .iface 38 (.pointer q), .slice none 0 0, .slice none 0 0, .int .i64 9, .nilIface, .iface 22 (.pointer p)] w fun e w' => e = .returned (.int .i64 1) ∧ w' = w := by
  have q1 : ∀ w : World, (binOp .eql 26 (.iface 38 (.pointer q)) .nilIface).run Tryz.prog w = .ok (.bool false) w := fun _ => by kernel_rfl
  go_enter Tryz.func8, Tryz.ntmps8
  go_wp2_with (first | (go_at_call 9; refine (work_no1 _ _ _).mono ?_; rintro _ _ ⟨rfl, rfl⟩))
  go_ret
  exact ⟨rfl, rfl⟩

theorem pairs4 (q : Option Addr) (p : Option Addr) (w : World) :
    Calls Tryz.prog 8 #[.iface 38 (.pointer q), .iface 38 (.pointer q), .slice none 0 0, .slice none 0 0, .int .i64 9, .iface 22 (.pointer p), .nilIface] w fun e w' => e = .returned (.int .i64 1) ∧ w' = w := by
  have q1 : ∀ w : World, (binOp .eql 26 (.iface 38 (.pointer q)) .nilIface).run Tryz.prog w = .ok (.bool false) w := fun _ => by kernel_rfl
  go_enter Tryz.func8, Tryz.ntmps8
  go_wp2_with (first | (go_at_call 9; refine (work_no2 _ _ _).mono ?_; rintro _ _ ⟨rfl, rfl⟩))
  go_ret
  exact ⟨rfl, rfl⟩
end Go.Proofs.YtigceoehdofckaaGreat
