import Derived.Test.YtbdkpkpncmagoaaGreatRxB
import Derived.Test.YtbdkpkpncmagoaaGreatRxC
import Derived.Defers
import Derived.Recover
import Derived.Test.YtbdkpkpncmagoaaGreatMmM
import Derived.Test.YtbdkpkpncmagoaaGreatMmK
import Derived.Test.YtbdkpkpncmagoaaGreatRdQ
import Derived.Test.YtbdkpkpncmagoaaGreatPackX
import Derived.WalkKit
import Derived.WalkSpells
import Derived.WalkLawsBesides
import Derived.StillTactics
import Derived.Deep.RegionHeld3
import Derived.Lib.QuietBelow
import Derived.BigQuiet
import Derived.RowKit3
import Derived.Deep.DeepCutAuto
import Derived.Deep.DrawnRows
import Derived.Lib.Bytealg
import Derived.Maps.AppendAt
import Derived.Deep.AppendLies
import Derived.Deep.OwnRows
import Derived.Test.YtbdkpkpncmagoaaGreatTabB
import Derived.Test.YtbdkpkpncmagoaaGreatMmG
import Derived.Test.YtbdkpkpncmagoaaGreatMmB
import Derived.Laws.CopyOwn
set_option linter.unusedSimpArgs false
set_option linter.unusedVariables false
namespace Go.Proofs.YtbdkpkpncmagoaaGreat
open Go.RowKit Go.Sort

set_option maxHeartbeats 400000 in
set_option maxRecDepth 100000 in
theorem values_die {b count : Nat} {sch kind : Int} {w : World} (f : Nat)
    (hf : (sch = 1 ∧ f = 115) ∨ (sch = 2 ∧ f = 116) ∨ (sch = 3 ∧ f = 117)) (hcall : Calls Tryz.prog f #[.pointer (some ⟨b, 0, none⟩), .int .i64 kind, .int .i64 count] w fun e w' => e = dmg ∧ Gr w w' b) :
    Calls Tryz.prog 105 #[.pointer (some ⟨b, 0, none⟩), .int .i64 sch, .int .i64 kind, .int .i64 count] w fun e w' => e = dmg ∧ Gr w w' b := by
  have HC := hide hcall
  clear hcall
  rcases hf with ⟨rfl, rfl⟩ | ⟨rfl, rfl⟩ | ⟨rfl, rfl⟩
  · go_enter Tryz.func105, Tryz.ntmps105
    go_wp2_with (go_at_call 115; refine (unhide HC).mono ?_; rintro e w1 ⟨rfl, h1⟩)
    exact ⟨rfl, rfl, h1⟩
  · go_enter Tryz.func105, Tryz.ntmps105
    go_wp2_with (go_at_call 116; refine (unhide HC).mono ?_; rintro e w1 ⟨rfl, h1⟩)
    exact ⟨rfl, rfl, h1⟩
  · go_enter Tryz.func105, Tryz.ntmps105
    go_wp2_with (go_at_call 117; refine (unhide HC).mono ?_; rintro e w1 ⟨rfl, h1⟩)
    exact ⟨rfl, rfl, h1⟩
set_option maxHeartbeats 400000 in
set_option maxRecDepth 100000 in
theorem values_die4 {b count : Nat} {w : World} (hcall : Calls Tryz.prog 118 #[.pointer (some ⟨b, 0, none⟩), .int .i64 count] w fun e w' => e = dmg ∧ Gr w w' b) :
    Calls Tryz.prog 105 #[.pointer (some ⟨b, 0, none⟩), .int .i64 4, .int .i64 1, .int .i64 count] w fun e w' => e = dmg ∧ Gr w w' b := by
  have HC := hide hcall
  clear hcall
  go_enter Tryz.func105, Tryz.ntmps105
  go_wp2_with (first
    | (go_at_call 103; refine (ensure_yes _).mono ?_; rintro e w4 ⟨rfl, rfl⟩)
    | (go_at_call 118; refine (unhide HC).mono ?_; rintro e w1 ⟨rfl, h1⟩))
  exact ⟨rfl, rfl, h1⟩
set_option maxHeartbeats 400000 in
set_option maxRecDepth 100000 in
theorem values_die5 {b count : Nat} {sch kind : Int} {w : World} (h1 : sch ≠ 1) (h2 : sch ≠ 2) (h3 : sch ≠ 3) (h4 : ¬ (sch = 4 ∧ kind = 1)) :
    Calls Tryz.prog 105 #[.pointer (some ⟨b, 0, none⟩), .int .i64 sch, .int .i64 kind, .int .i64 count] w fun e w' => e = dmg ∧ Gr w w' b := by
  have e1 : (sch == 1) = false := by simpa using h1
  have e2 : (sch == 2) = false := by simpa using h2
  have e3 : (sch == 3) = false := by simpa using h3
  by_cases g : sch = 4
  · subst g
    have e5 : (kind == 1) = false := by simp; exact fun e => h4 ⟨rfl, e⟩
    clear h1 h2 h3 h4
    go_enter Tryz.func105, Tryz.ntmps105
    go_wp2_with (go_at_call 103; refine (ensure_no _).mono ?_; rintro e w4 ⟨rfl, rfl⟩)
    exact ⟨rfl, rfl, Gr.refl _ _⟩
  · have e4 : (sch == 4) = false := by simpa using g
    clear h1 h2 h3 h4 g
    go_enter Tryz.func105, Tryz.ntmps105
    go_wp2_with (go_at_call 103; refine (ensure_no _).mono ?_; rintro e w4 ⟨rfl, rfl⟩)
    exact ⟨rfl, rfl, Gr.refl _ _⟩
theorem dies_of {w w' : World} {e : Ending} {b : Nat} (h : PlainsR w w' e b none) : e = dmg ∧ Gr w w' b := by
  rcases h with ⟨vs', r', v, he, _⟩ | ⟨_, he, hg⟩
  · cases he
  · exact ⟨he, hg⟩
theorem values_no {b count sch : Nat} {kind : Int} {w : World} {l : List UInt8} (hc : count ≤ 4096) (hk : kind = 1 ∨ kind = 2) (h : Rd w b l) (hl : l.length ≤ 140737488355328) (hv : valuesD sch kind count l = none) :
    Calls Tryz.prog 105 #[.pointer (some ⟨b, 0, none⟩), .int .i64 (sch : Int), .int .i64 kind, .int .i64 count] w fun e w' => e = dmg ∧ Gr w w' b := by
  unfold valuesD at hv
  split at hv
  · rename_i hs
    subst hs
    refine values_die 115 (.inl ⟨rfl, rfl⟩) ?_
    have := plains_any b count kind l w hk (by omega) h hl
    rw [hv] at this
    exact this.mono fun e w' h => dies_of h
  · rename_i n1
    split at hv
    · rename_i hs
      subst hs
      exact values_die 116 (.inr (.inl ⟨rfl, rfl⟩)) (runs_no hc hk h hl hv)
    · rename_i n2
      split at hv
      · rename_i hs
        subst hs
        exact values_die 117 (.inr (.inr ⟨rfl, rfl⟩)) (words_no hc hk h hl hv)
      · rename_i n3
        split at hv
        · rename_i hs
          obtain ⟨rfl, rfl⟩ := hs
          refine values_die4 ?_
          have := offsets_any b count l w hc h hl
          rw [hv] at this
          exact this.mono fun e w' h => dies_of h
        · rename_i n4
          exact values_die5 (by omega) (by omega) (by omega) (fun ⟨g1, g2⟩ => n4 ⟨by omega, g2⟩)
theorem nulls_y {b n : Nat} {l3 l4 : List UInt8} {nl : List Bool} (hn : n ≤ 4096) (hl : l3.length ≤ 140737488355328) (h4 : nullsD n l3 = some (nl, l4)) (W : World) (hW : Rd W b l3) :
    Calls Tryz.prog 104 #[.pointer (some ⟨b, 0, none⟩), .int .i64 n] W fun e w' => ∃ g, e = .returned (.tuple #[.slice (some ⟨g, 0, none⟩) n n, .int .i64 (nl.count true : Nat)]) ∧ w'.rowIs g 4 n (fun j => .bool (nl.getD j false)) ∧ W.heap.size ≤ g ∧ Rd w' b l4 ∧ Gr W w' b := by
  have := nulls_any b n l3 W hn hW hl
  rw [h4] at this
  refine this.mono ?_
  rintro e w' (⟨nl', r', g, he, g1, g2, g3, g4, g5, g6⟩ | ⟨he, _⟩)
  · injection he with he; injection he with e1 e2; subst e1; subst e2
    exact ⟨g, g1, g2, g4, g5, g6⟩
  · cases he
theorem nulls_n {b n : Nat} {l3 : List UInt8} (hn : n ≤ 4096) (hl : l3.length ≤ 140737488355328) (h4 : nullsD n l3 = none) (W : World) (hW : Rd W b l3) :
    Calls Tryz.prog 104 #[.pointer (some ⟨b, 0, none⟩), .int .i64 n] W fun e w' => e = dmg ∧ Gr W w' b := by
  have := nulls_any b n l3 W hn hW hl
  rw [h4] at this
  refine this.mono ?_
  rintro e w' (⟨nl', r', g, he, _⟩ | ⟨_, he, hg⟩)
  · cases he
  · exact ⟨he, hg⟩
theorem count_bool : ∀ m : List Bool, m.count false + m.count true = m.length := by
  intro m
  induction m with
  | nil => rfl
  | cons a m ih => cases a <;> simp [List.count_cons] <;> omega
set_option maxHeartbeats 400000 in
set_option maxRecDepth 100000 in
theorem col_no1 {b : Nat} {l : List UInt8} {w : World} (h : Rd w b l) (hl : l.length ≤ 140737488355328) (h1 : numD 1 l = none) :
    Calls Tryz.prog 86 #[.pointer (some ⟨b, 0, none⟩)] w fun e w' => e = dmg ∧ Gr w w' b := by
  have C1 := hide (fun o => numd_no (h.alloc o) hl h1)
  clear h
  go_enter Tryz.func86, Tryz.ntmps86
  go_wp2_with (go_at_call 102; refine (unhide C1 _).mono ?_; rintro e w1 ⟨rfl, rfl⟩)
  exact ⟨rfl, rfl, Gr.alloc _ _ _⟩
set_option maxHeartbeats 400000 in
set_option maxRecDepth 100000 in
theorem col_no2 {b sch : Nat} {l l1 : List UInt8} {w : World} (h : Rd w b l) (hl : l.length ≤ 140737488355328) (h1 : numD 1 l = some (sch, l1)) (h2 : numD 1 l1 = none) :
    Calls Tryz.prog 86 #[.pointer (some ⟨b, 0, none⟩)] w fun e w' => e = dmg ∧ Gr w w' b := by
  have b1 := numD_le h1
  have hsch := num1_lt h1
  have C1 := hide (fun o => numd_yes (h.alloc o) hl h1 (by decide))
  have C2 := hide (fun W (hW : Rd W b l1) => numd_no hW (by omega) h2)
  clear h
  go_enter Tryz.func86, Tryz.ntmps86
  go_wp2_with (go_at_call 102; first | (refine (unhide C2 _ hr1).mono ?_; rintro e w2 ⟨rfl, rfl⟩) | (refine (unhide C1 _).mono ?_; rintro e w1 ⟨rfl, hr1, hg1⟩))
  exact ⟨rfl, rfl, hg1.of_alloc⟩
set_option maxHeartbeats 400000 in
set_option maxRecDepth 100000 in
theorem col_no3 {b sch kd : Nat} {l l1 l2 : List UInt8} {w : World} (h : Rd w b l) (hl : l.length ≤ 140737488355328) (h1 : numD 1 l = some (sch, l1)) (h2 : numD 1 l1 = some (kd, l2)) (hk : ¬ (kd = 1 ∨ kd = 2)) :
    Calls Tryz.prog 86 #[.pointer (some ⟨b, 0, none⟩)] w fun e w' => e = dmg ∧ Gr w w' b := by
  have b1 := numD_le h1
  have hsch := num1_lt h1
  have hkd := num1_lt h2
  have C1 := hide (fun o => numd_yes (h.alloc o) hl h1 (by decide))
  have C2 := hide (fun W (hW : Rd W b l1) => numd_yes hW (by omega) h2 (by decide))
  have k1 : ((kd : Int) == 1) = false := by simp; omega
  have k2 : ((kd : Int) == 2) = false := by simp; omega
  clear h hk
  go_enter Tryz.func86, Tryz.ntmps86
  go_wp2_with (first
    | (go_at_call 102; first | (refine (unhide C2 _ hr1).mono ?_; rintro e w2 ⟨rfl, hr2, hg2⟩) | (refine (unhide C1 _).mono ?_; rintro e w1 ⟨rfl, hr1, hg1⟩))
    | (go_at_call 103; refine (ensure_no _).mono ?_; rintro e wE ⟨rfl, rfl⟩))
  exact ⟨rfl, rfl, hg1.of_alloc.trans hg2⟩
set_option maxHeartbeats 400000 in
set_option maxRecDepth 100000 in
theorem col_no4 {b sch kd : Nat} {l l1 l2 : List UInt8} {w : World} (h : Rd w b l) (hl : l.length ≤ 140737488355328) (h1 : numD 1 l = some (sch, l1)) (h2 : numD 1 l1 = some (kd, l2)) (hk : kd = 1 ∨ kd = 2) (h3 : numD 4 l2 = none) :
    Calls Tryz.prog 86 #[.pointer (some ⟨b, 0, none⟩)] w fun e w' => e = dmg ∧ Gr w w' b := by
  have b1 := numD_le h1
  have b2 := numD_le h2
  have hsch := num1_lt h1
  have C1 := hide (fun o => numd_yes (h.alloc o) hl h1 (by decide))
  have C2 := hide (fun W (hW : Rd W b l1) => numd_yes hW (by omega) h2 (by decide))
  have C3 := hide (fun W (hW : Rd W b l2) => numd_no hW (by omega) h3)
  clear h h2
  rcases hk with rfl | rfl
  all_goals
    go_enter Tryz.func86, Tryz.ntmps86
    go_wp2_with (first
      | (go_at_call 102; first | (refine (unhide C3 _ hr2).mono ?_; rintro e w3 ⟨rfl, rfl⟩) | (refine (unhide C2 _ hr1).mono ?_; rintro e w2 ⟨rfl, hr2, hg2⟩) | (refine (unhide C1 _).mono ?_; rintro e w1 ⟨rfl, hr1, hg1⟩))
      | (go_at_call 103; refine (ensure_yes _).mono ?_; rintro e wE ⟨rfl, rfl⟩))
    exact ⟨rfl, rfl, hg1.of_alloc.trans hg2⟩
set_option maxHeartbeats 400000 in
set_option maxRecDepth 100000 in
theorem col_no5 {b sch kd n : Nat} {l l1 l2 l3 : List UInt8} {w : World} (h : Rd w b l) (hl : l.length ≤ 140737488355328) (h1 : numD 1 l = some (sch, l1)) (h2 : numD 1 l1 = some (kd, l2)) (hk : kd = 1 ∨ kd = 2) (h3 : numD 4 l2 = some (n, l3)) (hn : ¬ n ≤ 4096) :
    Calls Tryz.prog 86 #[.pointer (some ⟨b, 0, none⟩)] w fun e w' => e = dmg ∧ Gr w w' b := by
  have b1 := numD_le h1
  have b2 := numD_le h2
  have hsch := num1_lt h1
  have C1 := hide (fun o => numd_yes (h.alloc o) hl h1 (by decide))
  have C2 := hide (fun W (hW : Rd W b l1) => numd_yes hW (by omega) h2 (by decide))
  have C3 := hide (fun W (hW : Rd W b l2) => numd_yes hW (by omega) h3 (by decide))
  have HNN : Hid (decide ((n : Int) ≤ 4096) = false) := decide_eq_false (by omega)
  clear h h2 hn h3
  rcases hk with rfl | rfl
  all_goals
    go_enter Tryz.func86, Tryz.ntmps86
    go_wp2_with (first
      | (go_at_call 102; first | (refine (unhide C3 _ hr2).mono ?_; rintro e w3 ⟨rfl, hr3, hg3⟩) | (refine (unhide C2 _ hr1).mono ?_; rintro e w2 ⟨rfl, hr2, hg2⟩) | (refine (unhide C1 _).mono ?_; rintro e w1 ⟨rfl, hr1, hg1⟩))
      | (go_at_call 103; first | (refine (ensure_yes _).mono ?_; rintro e wE ⟨rfl, rfl⟩) | (refine (ensureF _ (unhide HNN) _).mono ?_; rintro e wF ⟨rfl, rfl⟩)))
    exact ⟨rfl, rfl, (hg1.of_alloc.trans hg2).trans hg3⟩
set_option maxHeartbeats 400000 in
set_option maxRecDepth 100000 in
theorem col_no6 {b sch kd n : Nat} {l l1 l2 l3 : List UInt8} {w : World} (h : Rd w b l) (hl : l.length ≤ 140737488355328) (h1 : numD 1 l = some (sch, l1)) (h2 : numD 1 l1 = some (kd, l2)) (hk : kd = 1 ∨ kd = 2) (h3 : numD 4 l2 = some (n, l3)) (hn : n ≤ 4096) (h4 : nullsD n l3 = none) :
    Calls Tryz.prog 86 #[.pointer (some ⟨b, 0, none⟩)] w fun e w' => e = dmg ∧ Gr w w' b := by
  have b1 := numD_le h1
  have b2 := numD_le h2
  have b3 := numD_le h3
  have hsch := num1_lt h1
  have C1 := hide (fun o => numd_yes (h.alloc o) hl h1 (by decide))
  have C2 := hide (fun W (hW : Rd W b l1) => numd_yes hW (by omega) h2 (by decide))
  have C3 := hide (fun W (hW : Rd W b l2) => numd_yes hW (by omega) h3 (by decide))
  have C4 := hide (nulls_n (b := b) hn (by omega) h4)
  have hni : (n : Int) ≤ 4096 := by omega
  clear h h2 h3 h4
  rcases hk with rfl | rfl
  all_goals
    go_enter Tryz.func86, Tryz.ntmps86
    go_wp2_with (first
      | (go_at_call 102; first | (refine (unhide C3 _ hr2).mono ?_; rintro e w3 ⟨rfl, hr3, hg3⟩) | (refine (unhide C2 _ hr1).mono ?_; rintro e w2 ⟨rfl, hr2, hg2⟩) | (refine (unhide C1 _).mono ?_; rintro e w1 ⟨rfl, hr1, hg1⟩))
      | (go_at_call 103; refine (ensure_yes _).mono ?_; rintro e wE ⟨rfl, rfl⟩)
      | (go_at_call 104; refine (unhide C4 _ hr3).mono ?_; rintro e w4 ⟨rfl, hg4⟩))
    exact ⟨rfl, rfl, ((hg1.of_alloc.trans hg2).trans hg3).trans hg4⟩
set_option maxHeartbeats 400000 in
set_option maxRecDepth 100000 in
theorem col_no7 {b sch kd n : Nat} {l l1 l2 l3 l4 : List UInt8} {nl : List Bool} {w : World} (h : Rd w b l) (hl : l.length ≤ 140737488355328) (h1 : numD 1 l = some (sch, l1)) (h2 : numD 1 l1 = some (kd, l2)) (hk : kd = 1 ∨ kd = 2) (h3 : numD 4 l2 = some (n, l3)) (hn : n ≤ 4096) (h4 : nullsD n l3 = some (nl, l4)) (h5 : valuesD sch (kd : Int) (nl.count false) l4 = none) :
    Calls Tryz.prog 86 #[.pointer (some ⟨b, 0, none⟩)] w fun e w' => e = dmg ∧ Gr w w' b := by
  have b1 := numD_le h1
  have b2 := numD_le h2
  have b3 := numD_le h3
  obtain ⟨hnl, b4⟩ := nullsD_len h4
  have hct := count_bool nl
  have hsch := num1_lt h1
  have C1 := hide (fun o => numd_yes (h.alloc o) hl h1 (by decide))
  have C2 := hide (fun W (hW : Rd W b l1) => numd_yes hW (by omega) h2 (by decide))
  have C3 := hide (fun W (hW : Rd W b l2) => numd_yes hW (by omega) h3 (by decide))
  have C4 := hide (nulls_y (b := b) hn (by omega) h4)
  have hki : ((kd : Int)) = 1 ∨ (kd : Int) = 2 := by omega
  have hcf : nl.count false ≤ 4096 := by omega
  have C5 := hide (fun W (hW : Rd W b l4) => values_no hcf hki hW (by omega) h5)
  have hni : (n : Int) ≤ 4096 := by omega
  obtain ⟨cT, hcT⟩ : ∃ cT, cT = nl.count true := ⟨_, rfl⟩
  obtain ⟨cF, hcF⟩ : ∃ cF, cF = nl.count false := ⟨_, rfl⟩
  rw [← hcT] at C4
  rw [← hcF] at C5
  have e1 : (n : Int) - (cT : Int) = (cF : Int) := by omega
  have hcTn : cT ≤ n := by omega
  clear h h2 h3 h4 h5 hct hcT hcF hnl hcf
  rcases hk with rfl | rfl
  all_goals
    go_enter Tryz.func86, Tryz.ntmps86
    go_wp2_with (first
      | (go_at_call 102; first | (refine (unhide C3 _ hr2).mono ?_; rintro e w3 ⟨rfl, hr3, hg3⟩) | (refine (unhide C2 _ hr1).mono ?_; rintro e w2 ⟨rfl, hr2, hg2⟩) | (refine (unhide C1 _).mono ?_; rintro e w1 ⟨rfl, hr1, hg1⟩))
      | (go_at_call 103; refine (ensure_yes _).mono ?_; rintro e wE ⟨rfl, rfl⟩)
      | (go_at_call 104; refine (unhide C4 _ hr3).mono ?_; rintro e w4 ⟨g, rfl, hrow4, hgl4, hr4, hg4⟩)
      | (go_at_call 105; refine (unhide C5 _ hr4).mono ?_; rintro e w5 ⟨rfl, hg5⟩))
    exact ⟨rfl, rfl, (((hg1.of_alloc.trans hg2).trans hg3).trans hg4).trans hg5⟩
set_option maxHeartbeats 400000 in
set_option maxRecDepth 100000 in
theorem col_no8 {b sch kd n : Nat} {l l1 l2 l3 l4 r : List UInt8} {nl : List Bool} {vs : List Val} {w : World} (h : Rd w b l) (hl : l.length ≤ 140737488355328) (h1 : numD 1 l = some (sch, l1)) (h2 : numD 1 l1 = some (kd, l2)) (hk : kd = 1 ∨ kd = 2) (h3 : numD 4 l2 = some (n, l3)) (hn : n ≤ 4096) (h4 : nullsD n l3 = some (nl, l4)) (h5 : valuesD sch (kd : Int) (nl.count false) l4 = some (vs, r)) (hr : r ≠ []) :
    Calls Tryz.prog 86 #[.pointer (some ⟨b, 0, none⟩)] w fun e w' => e = dmg ∧ Gr w w' b := by
  have b1 := numD_le h1
  have b2 := numD_le h2
  have b3 := numD_le h3
  obtain ⟨hnl, b4⟩ := nullsD_len h4
  have hct := count_bool nl
  have hsch := num1_lt h1
  have C1 := hide (fun o => numd_yes (h.alloc o) hl h1 (by decide))
  have C2 := hide (fun W (hW : Rd W b l1) => numd_yes hW (by omega) h2 (by decide))
  have C3 := hide (fun W (hW : Rd W b l2) => numd_yes hW (by omega) h3 (by decide))
  have C4 := hide (nulls_y (b := b) hn (by omega) h4)
  have hki : ((kd : Int)) = 1 ∨ (kd : Int) = 2 := by omega
  have hcf : nl.count false ≤ 4096 := by omega
  have C5 := hide (fun W (hW : Rd W b l4) => values_yes hcf hki hW (by omega) h5)
  have hni : (n : Int) ≤ 4096 := by omega
  obtain ⟨cT, hcT⟩ : ∃ cT, cT = nl.count true := ⟨_, rfl⟩
  obtain ⟨cF, hcF⟩ : ∃ cF, cF = nl.count false := ⟨_, rfl⟩
  rw [← hcT] at C4
  rw [← hcF] at C5
  have e1 : (n : Int) - (cT : Int) = (cF : Int) := by omega
  have hcTn : cT ≤ n := by omega
  have HRE : Hid ((bs r).toList.isEmpty = false) := by
    show _ = _
    cases hq : (bs r).toList.isEmpty with
    | false => rfl
    | true =>
      have := congrArg List.length (List.isEmpty_iff.1 hq)
      cases r with
      | nil => exact absurd rfl hr
      | cons a r => simp [bs, ByteArray.toList_eq] at this
  clear h h2 h3 h4 h5 hct hcT hcF hnl hcf
  rcases hk with rfl | rfl
  all_goals
    go_enter Tryz.func86, Tryz.ntmps86
    go_wp2_with (first
      | (go_at_call 102; first | (refine (unhide C3 _ hr2).mono ?_; rintro e w3 ⟨rfl, hr3, hg3⟩) | (refine (unhide C2 _ hr1).mono ?_; rintro e w2 ⟨rfl, hr2, hg2⟩) | (refine (unhide C1 _).mono ?_; rintro e w1 ⟨rfl, hr1, hg1⟩))
      | (go_at_call 103; first | (refine (ensure_yes _).mono ?_; rintro e wE ⟨rfl, rfl⟩) | (refine (ensureF _ (unhide HRE) _).mono ?_; rintro e wF ⟨rfl, rfl⟩))
      | (go_at_call 104; refine (unhide C4 _ hr3).mono ?_; rintro e w4 ⟨g, rfl, hrow4, hgl4, hr4, hg4⟩)
      | (go_at_call 105; refine (unhide C5 _ hr4).mono ?_; rintro e w5 ⟨v5, rfl, ho5, hr5, hg5⟩; obtain ⟨a5, c5, rfl, _, _, hrw5⟩ := ownV_slice ho5; have c9 : w5.cell? ⟨b, 0, none⟩ = some (.string (bs r)) := hr5.cell))
    exact ⟨rfl, rfl, (((hg1.of_alloc.trans hg2).trans hg3).trans hg4).trans hg5⟩
theorem column_no {b : Nat} {l : List UInt8} {w : World} (h : Rd w b l) (hl : l.length ≤ 140737488355328) (hd : columnD l = none) :
    Calls Tryz.prog 86 #[.pointer (some ⟨b, 0, none⟩)] w fun e w' => e = dmg ∧ Gr w w' b := by
  unfold columnD at hd
  cases h1 : numD 1 l with
  | none => exact col_no1 h hl h1
  | some a =>
    obtain ⟨sch, l1⟩ := a
    rw [h1, Option.bind_some] at hd
    cases h2 : numD 1 l1 with
    | none => exact col_no2 h hl h1 h2
    | some q =>
      obtain ⟨kd, l2⟩ := q
      simp only [h2, Option.bind_some] at hd
      by_cases hk : kd = 1 ∨ kd = 2
      · rw [if_pos hk] at hd
        cases h3 : numD 4 l2 with
        | none => exact col_no4 h hl h1 h2 hk h3
        | some q =>
          obtain ⟨n, l3⟩ := q
          simp only [h3, Option.bind_some] at hd
          by_cases hn : n ≤ 4096
          · rw [if_pos hn] at hd
            cases h4 : nullsD n l3 with
            | none => exact col_no6 h hl h1 h2 hk h3 hn h4
            | some q =>
              obtain ⟨nl, l4⟩ := q
              simp only [h4, Option.bind_some] at hd
              cases h5 : valuesD sch (kd : Int) (nl.count false) l4 with
              | none => exact col_no7 h hl h1 h2 hk h3 hn h4 h5
              | some q =>
                obtain ⟨vs, r⟩ := q
                simp only [h5, Option.bind_some] at hd
                by_cases hr : r = []
                · rw [if_pos hr] at hd; cases hd
                · exact col_no8 h hl h1 h2 hk h3 hn h4 h5 hr
          · exact col_no5 h hl h1 h2 hk h3 hn
      · exact col_no3 h hl h1 h2 hk
end Go.Proofs.YtbdkpkpncmagoaaGreat
set_option linter.unusedSimpArgs false
set_option linter.unusedVariables false
namespace Go.Proofs.YtbdkpkpncmagoaaGreat
open Go.RowKit Go.Sort

theorem wp_cast {P : Program} {c : Code} {Q : Exit → Act → World → Prop} {T T' : Array Value} {ds : List Deferred} {w : World} (e : T = T') (h : c.wp P Q { tmps := T', defers := ds } w) : c.wp P Q { tmps := T, defers := ds } w := e ▸ h
set_option maxHeartbeats 1000000 in
set_option maxRecDepth 100000 in
theorem catch_dmg (g h : Nat) (w : World) (hg : w.rowIs g 117 3 (box86 (.int .i64 0) (.int .i64 0) (.slice none 0 0))) (hh : At1 w h 25 (.int .i64 0)) (hgh : g ≠ h) :
    CallsD Tryz.prog 85 #[.pointer (some ⟨g, 0, none⟩), .pointer (some ⟨h, 0, none⟩)] (.panicking [{ v := .iface 130 (.agg #[]), recovered := false }]) w fun e u' w' => e = .returned (.tuple #[]) ∧ u' = .panicking [{ v := .iface 130 (.agg #[]), recovered := true }] ∧
      w' = ((((w.alloc (.cells #[] 130)).setCell ⟨g, 0, none⟩ (.int .i64 0)).setCell ⟨g, 1, none⟩ (.int .i64 0)).setCell ⟨g, 2, none⟩ (.slice none 0 0)).setCell ⟨h, 0, none⟩ (.int .i64 2) := by
  obtain ⟨p0, p1, p2, q0, q1, q2⟩ := box86_facts (hg.alloc (.cells #[] 130))
  have y0 := (hh.new (.cells #[] 130)).cell
  have z0 := World.rowIs.frozen (hh.new (.cells #[] 130)) 0
  have hta : ∀ w : World, (Instr.typeAssert (Value.iface 130 (Value.agg #[])) 20 130 true).run Tryz.prog w = .ok (.tuple #[.agg #[], .bool true]) w := fun _ => by kernel_rfl
  refine callsD_of_wpS Tryz.func85 rfl fun c₀ cs hu => ?_
  apply wpS_seq
  apply wpS_region
  simp [wpOpsS, go_sem, recoverD, hu, Tryz.ntmps85, Exit.thenS]
  refine wpS_of_wp ?_
  refine wp_cast (T' := #[.pointer (some ⟨g, 0, none⟩), .pointer (some ⟨h, 0, none⟩), .iface 130 (.agg #[]), undef, undef, .iface 130 (.agg #[]), undef, undef, undef, undef, undef, undef, undef, undef, undef, undef, undef]) (by rfl) ?_
  go_wp2
  exact ⟨rfl, _, rfl, _, by simp [results, Tryz.results85, go_sem], rfl, rfl, rfl⟩
set_option maxHeartbeats 400000 in
set_option maxRecDepth 100000 in
theorem opened_no {l : List UInt8} {w : World} (hl : l.length ≤ 140737488355328) (hd : columnD l = none) :
    Calls Tryz.prog 71 #[.string (bs l)] w fun e w' => e = .returned (.tuple #[.agg #[.int .i64 0, .int .i64 0, .slice none 0 0], .int .i64 2]) ∧ Below w.heap.size w w' := by
  have hmf := makeFunc_run
  have HC : Hid (∀ o1 o2, Calls Tryz.prog 86 #[.pointer (some ⟨w.heap.size + 1 + 1, 0, none⟩)] (((w.alloc o1).alloc o2).alloc (.cells #[.string (bs l)] 133)) fun e w' => e = dmg ∧ Gr (((w.alloc o1).alloc o2).alloc (.cells #[.string (bs l)] 133)) w' (w.heap.size + 1 + 1)) := fun o1 o2 => by
    have h := Rd.made ((w.alloc o1).alloc o2) l
    have e : ((w.alloc o1).alloc o2).heap.size = w.heap.size + 1 + 1 := by simp
    rw [e] at h
    exact column_no h hl hd
  have HX : Hid (∀ w1 o, Gr (((w.alloc (.cells #[.int .i64 0, .int .i64 0, .slice none 0 0] 117)).alloc (.cells #[.int .i64 0] 25)).alloc o) w1 (w.heap.size + 1 + 1) → w1.rowIs w.heap.size 117 3 (box86 (.int .i64 0) (.int .i64 0) (.slice none 0 0)) ∧ At1 w1 (w.heap.size + 1) 25 (.int .i64 0)) := fun w1 o hg => by
    refine ⟨row_grx (((box86_alloc w _ _ _).alloc _).alloc _) hg (by omega), ?_⟩
    have h := At1.alloc (w.alloc (.cells #[.int .i64 0, .int .i64 0, .slice none 0 0] 117)) 25 (.int .i64 0)
    have e : (w.alloc (.cells #[.int .i64 0, .int .i64 0, .slice none 0 0] 117)).heap.size = w.heap.size + 1 := by simp
    rw [e] at h
    exact (h.new o).gr hg (by omega)
  go_enter_defers Tryz.func71, Tryz.ntmps71
  go_wp2_with (go_at_call 86; refine (unhide HC _ _).mono ?_; rintro e w1 ⟨rfl, hg1⟩; obtain ⟨hx1, hx2⟩ := unhide HX w1 _ hg1)
  refine leaves_cons (f := 85) (args := #[.pointer (some ⟨w.heap.size, 0, none⟩), .pointer (some ⟨w.heap.size + 1, 0, none⟩)]) (by simp) (by simp [go_sem]) ?_
  refine (catch_dmg w.heap.size (w.heap.size + 1) _ hx1 hx2 (by omega)).mono ?_
  rintro e u' w'' ⟨rfl, rfl, hw⟩
  have hz : w.heap.size + 1 + 1 + 1 ≤ w1.heap.size := by have := hg1.size; simpa using this
  have hb : Below w.heap.size w w1 := by
    refine ⟨hg1.os, hg1.tape, hg1.output, by omega, fun i hi => ?_⟩
    rw [hg1.block i (by simp; omega) (fun e => by injection e with e; omega), Below.heap_alloc _ _ _ (by simp; omega), Below.heap_alloc _ _ _ (by simp; omega), Below.heap_alloc _ _ _ hi]
  have hB : Below w.heap.size w w'' := by
    rw [hw]
    exact ((((below_alloc hb _).setCell (p := ⟨w.heap.size, 0, none⟩) (Nat.le_refl _) _).setCell (p := ⟨w.heap.size, 1, none⟩) (Nat.le_refl _) _).setCell (p := ⟨w.heap.size, 2, none⟩) (Nat.le_refl _) _).setCell (p := ⟨w.heap.size + 1, 0, none⟩) (by simp) _
  have hx3 : w''.rowIs w.heap.size 117 3 (box86 (.int .i64 0) (.int .i64 0) (.slice none 0 0)) := by
    rw [hw]
    refine World.rowIs.setOther ?_ (by simp) _
    refine World.rowIs.congr (World.rowIs.set (World.rowIs.set (World.rowIs.set (World.rowIs.alloc hx1 (.cells #[] 130)) 0 (.int .i64 0)) 1 (.int .i64 0)) 2 (.slice none 0 0)) ?_
    intro i hi
    match i, hi with
    | 0, _ => rfl
    | 1, _ => rfl
    | 2, _ => rfl
  have hx4 : At1 w'' (w.heap.size + 1) 25 (.int .i64 2) := by
    rw [hw]
    refine World.rowIs.congr (World.rowIs.set (World.rowIs.setOther (World.rowIs.setOther (World.rowIs.setOther (World.rowIs.alloc hx2 (.cells #[] 130)) (by simp) _) (by simp) _) (by simp) _) 0 (.int .i64 2)) ?_
    intro i hi
    have e0 : i = 0 := by omega
    subst e0
    simp
  obtain ⟨p0, p1, p2, q0, q1, q2⟩ := box86_facts hx3
  have y0 := hx4.cell
  clear hw hx1 hx2
  refine ⟨.tuple #[.agg #[.int .i64 0, .int .i64 0, .slice none 0 0], .int .i64 2], ?_, rfl, hB⟩
  simp [results, Tryz.results71, go_sem, p0, p1, p2, y0]
end Go.Proofs.YtbdkpkpncmagoaaGreat
set_option linter.unusedSimpArgs false
set_option linter.unusedVariables false
set_option maxRecDepth 100000
namespace Go.Proofs.YtbdkpkpncmagoaaGreat
open Go.RowKit Go.Sort

set_option maxHeartbeats 400000 in
/-- Read of the empty text. -/
theorem pread_empty (w : World) : Calls Tryz.prog 63 #[.string ⟨#[]⟩] w fun e w' => ∃ (p : Sl) (err : Int), e = .returned (.tuple #[vecV Vc.zero p, .int .i64 err]) ∧ VecAt w' Vc.zero p ∧ Own3 w' w.heap.size Vc.zero p ∧ Below w.heap.size w w' := by
  have H : Hid (∀ W, Calls Tryz.prog 71 #[.string ⟨#[]⟩] W fun e w' => e = .returned (.tuple #[.agg #[.int .i64 0, .int .i64 0, .slice none 0 0], .int .i64 2]) ∧ Below W.heap.size W w') := fun W => opened_no (l := []) (w := W) (by simp) (by rfl)
  go_enter Tryz.func63, Tryz.ntmps63
  go_wp2_with (go_at_call 71; refine (unhide H _).mono ?_; rintro e w1 ⟨rfl, hb1⟩; obtain ⟨r0, r1, r2, r3, s0, s1, s2, s3⟩ := box_facts (World.rowIs.alloc (rowIs_later (box4_alloc w (.int .i64 0) (.slice none 0 0) (.slice none 0 0) (.slice none 0 0)) hb1) (.cells #[.int .i64 0, .int .i64 0, .slice none 0 0] 117)))
  have hB := below_alloc (below_one hb1) (.cells #[.int .i64 0, .int .i64 0, .slice none 0 0] 117)
  refine bodyPost_ret (v := .tuple #[zeroVec, .int .i64 2]) (by simp [results, Tryz.results63, go_sem, zeroVec, *]) rfl ?_
  exact ⟨⟨none, 0, none, 0, none, 0⟩, 2, rfl, VecAt.zero _, Own3.zero _ _, below_set4 hB (Nat.le_refl _) _ _ _ _⟩
/-- What Read answers of what Pack wrote of a column of From's. -/
theorem read_of {kind : Int} {xs : List Val} {X : Vc} (hf : fromV kind xs = (X, 0)) (hr : ∀ x ∈ xs, -9223372036854775808 ≤ x.n ∧ x.n ≤ 9223372036854775807) {s : ByteArray} {f : Int} (h : PP X s f) :
    (xs.length ≤ 4096 ∧ f = 0 ∧ ∀ W, Calls Tryz.prog 63 #[.string s] W fun e w' => ∃ p, e = .returned (.tuple #[vecV X p, .int .i64 0]) ∧ VecAt w' X p ∧ Own3 w' W.heap.size X p ∧ Below W.heap.size W w') ∨
    (4096 < xs.length ∧ ∀ W, Calls Tryz.prog 63 #[.string s] W fun e w' => ∃ (p : Sl) (err : Int), e = .returned (.tuple #[vecV Vc.zero p, .int .i64 err]) ∧ VecAt w' Vc.zero p ∧ Own3 w' W.heap.size Vc.zero p ∧ Below W.heap.size W w') := by
  obtain ⟨hg, hk, hv, hff, hl, hl2, hl3, hrr⟩ := from_ok hf
  have hpw : ∀ (b : ByteArray) (n : Int), PW X n b 0 → X.nl.length ≤ 4096 := fun b n h => by
    rcases h with ⟨_, _, h⟩ | ⟨_, _, _, h⟩ | ⟨_, h, _⟩
    · cases h
    · cases h
    · exact h
  rcases h with ⟨rfl, h⟩ | ⟨rfl, hf0, t, h⟩
  · left
    obtain ⟨⟨n, h1, h4, hw⟩, _⟩ := pb_one hg 3 s h
    have hle := hpw _ _ hw
    refine ⟨by omega, rfl, fun W => ?_⟩
    have ho := pw_opens (hrr hr) h1 (by omega) hw
    have hvl : (valsV X).length ≤ 4096 := Nat.le_trans (vals_le X) hle
    exact pread_any ho hvl hff W
  · right
    refine ⟨?_, pread_empty⟩
    rcases h with ⟨hb, _, _⟩ | ⟨_, h, _⟩ | ⟨_, _, h, _⟩
    · exfalso
      simp [badW, hg] at hb
    · omega
    · exact absurd h hf0
end Go.Proofs.YtbdkpkpncmagoaaGreat
set_option linter.unusedSimpArgs false
set_option linter.unusedVariables false
set_option maxRecDepth 100000
namespace Go.Proofs.YtbdkpkpncmagoaaGreat
open Go.RowKit Go.Sort

end Go.Proofs.YtbdkpkpncmagoaaGreat
set_option linter.unusedSimpArgs false
set_option linter.unusedVariables false
set_option maxRecDepth 100000
namespace Go.Proofs.YtbdkpkpncmagoaaGreat
open Go.RowKit Go.Sort

end Go.Proofs.YtbdkpkpncmagoaaGreat
set_option linter.unusedSimpArgs false
set_option linter.unusedVariables false
set_option maxRecDepth 100000
namespace Go.Proofs.YtbdkpkpncmagoaaGreat
open Go.RowKit Go.Sort

def takeR (l : List UInt8) (bad : Bool) (n : Nat) : List UInt8 × List UInt8 × Bool := if bad = true ∨ l.length < n then ([], l, true) else (l.take n, l.drop n, false)
end Go.Proofs.YtbdkpkpncmagoaaGreat
set_option linter.unusedSimpArgs false
set_option linter.unusedVariables false
set_option maxRecDepth 100000
namespace Go.Proofs.YtbdkpkpncmagoaaGreat
open Go.RowKit Go.Sort

theorem RowAt.grow {w w' : World} {a : Option Addr} {xs : List Val} {row : Option Nat} (h : RowAt w a xs) (hg : w.grownBy w' row) (hne : ∀ ad, a = some ad → some ad.block ≠ row) : RowAt w' a xs := by
  rcases h with h | ⟨b, off, ha, h⟩
  · exact .inl h
  · refine .inr ⟨b, off, ha, fun i x hx => ?_⟩
    obtain ⟨h0, h1, h2⟩ := h i x hx
    have hs := hne _ ha
    have hk : ∀ j v, w.cell? ⟨b, j, none⟩ = some v → w'.cell? ⟨b, j, none⟩ = some v := fun j v hv => by
      rw [World.cell?_of_block (a := ⟨b, j, none⟩) (hg.block b (World.block_lt_of_cell? _ _ hv) hs)]; exact hv
    exact ⟨hk _ _ h0, hk _ _ h1, hk _ _ h2⟩
end Go.Proofs.YtbdkpkpncmagoaaGreat
set_option linter.unusedSimpArgs false
set_option linter.unusedVariables false
set_option maxRecDepth 100000
namespace Go.Proofs.YtbdkpkpncmagoaaGreat
open Go.RowKit Go.Sort

theorem min_spec2 : ∀ (ys : List Val) (m : Val), minFrom m ys ∈ m :: ys ∧ ∀ y ∈ m :: ys, ordV (minFrom m ys) y ≤ 0
  | [], m => ⟨by simp [minFrom], fun y hy => by simp at hy; subst hy; rw [minFrom, List.foldl_nil, ord_self]; omega⟩
  | z :: ys, m => by
    have e : minFrom m (z :: ys) = minFrom (if ordV z m < 0 then z else m) ys := rfl
    rw [e]
    obtain ⟨h1, h2⟩ := min_spec2 ys (if ordV z m < 0 then z else m)
    have hle := h2 _ (List.mem_cons_self ..)
    by_cases hz : ordV z m < 0
    · rw [if_pos hz] at h1 h2 hle ⊢
      refine ⟨?_, fun y hy => ?_⟩
      · rcases List.mem_cons.1 h1 with h | h
        · rw [h]; simp
        · simp [h]
      · rcases List.mem_cons.1 hy with rfl | hy
        · exact ord_le hle (by omega)
        · rcases List.mem_cons.1 hy with rfl | hy
          · exact hle
          · exact h2 y (by simp [hy])
    · rw [if_neg hz] at h1 h2 hle ⊢
      have hmz : ordV m z ≤ 0 := by have := ord_anti m z; omega
      refine ⟨?_, fun y hy => ?_⟩
      · rcases List.mem_cons.1 h1 with h | h
        · rw [h]; simp
        · simp [h]
      · rcases List.mem_cons.1 hy with rfl | hy
        · exact hle
        · rcases List.mem_cons.1 hy with rfl | hy
          · exact ord_le hle hmz
          · exact h2 y (by simp [hy])
end Go.Proofs.YtbdkpkpncmagoaaGreat
set_option linter.unusedSimpArgs false
set_option linter.unusedVariables false
set_option maxRecDepth 100000
namespace Go.Proofs.YtbdkpkpncmagoaaGreat
open Go.RowKit Go.Sort

/-- The value at a place. -/
def atL (L : List Val) (k : Nat) : Val := L.getD k Val.null
/-- L' is L with the places from a to b in another order. -/
structure PAB (a b : Nat) (L L' : List Val) : Prop where
  perm : L'.Perm L
  out : ∀ k, k < a ∨ b ≤ k → atL L' k = atL L k
  ins : ∀ k, a ≤ k → k < b → ∃ j, a ≤ j ∧ j < b ∧ atL L' k = atL L j
theorem PAB.len {a b : Nat} {L L' : List Val} (h : PAB a b L L') : L'.length = L.length := h.perm.length_eq
theorem PAB.refl (a b : Nat) (L : List Val) : PAB a b L L := ⟨List.Perm.refl _, fun _ _ => rfl, fun k h1 h2 => ⟨k, h1, h2, rfl⟩⟩
theorem PAB.trans {a b : Nat} {L L' L'' : List Val} (h : PAB a b L L') (h2 : PAB a b L' L'') : PAB a b L L'' :=
  ⟨h2.perm.trans h.perm, fun k hk => (h2.out k hk).trans (h.out k hk), fun k h3 h4 => by
    obtain ⟨j, h5, h6, h7⟩ := h2.ins k h3 h4
    obtain ⟨q, h8, h9, h10⟩ := h.ins j h5 h6
    exact ⟨q, h8, h9, h7.trans h10⟩⟩
/-- Rising from a to b. -/
def SAB (a b : Nat) (L : List Val) : Prop := ∀ i j, a ≤ i → i < j → j < b → ordV (atL L i) (atL L j) ≤ 0
theorem SAB.one {a b : Nat} (h : b ≤ a + 1) (L : List Val) : SAB a b L := fun i j h1 h2 h3 => by omega
theorem SAB.le {a b : Nat} {L : List Val} (h : SAB a b L) {i j : Nat} (h1 : a ≤ i) (h2 : i ≤ j) (h3 : j < b) : ordV (atL L i) (atL L j) ≤ 0 := by
  by_cases e : i = j
  · subst e; rw [ord_self]; omega
  · exact h i j h1 (by omega) h3
theorem SAB.out {a b c d : Nat} {L L' : List Val} (h : SAB a b L) (hp : PAB c d L L') (hd : b ≤ c ∨ d ≤ a) : SAB a b L' := fun i j h1 h2 h3 => by
  rw [hp.out i (by omega), hp.out j (by omega)]
  exact h i j h1 h2 h3
end Go.Proofs.YtbdkpkpncmagoaaGreat
