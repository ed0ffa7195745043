import Derived.Test.YthbfomcmjjnikaaGreatRxB
import Derived.Test.YthbfomcmjjnikaaGreatRxC
import Derived.Defers
import Derived.Recover
import Derived.Test.YthbfomcmjjnikaaGreatRyO
set_option linter.unusedSimpArgs false
set_option linter.unusedVariables false
namespace Go.Proofs.YthbfomcmjjnikaaGreat
open Go.RowKit Go.Sort

set_option maxHeartbeats 400000 in
set_option maxRecDepth 100000 in
theorem values_die {b count : Nat} {sch kind : Int} {w : World} (f : Nat)
    (hf : (sch = 1 ∧ f = 162) ∨ (sch = 2 ∧ f = 163) ∨ (sch = 3 ∧ f = 164)) (hcall : Calls Tryz.prog f #[.pointer (some ⟨b, 0, none⟩), .int .i64 kind, .int .i64 count] w fun e w' => e = dmg ∧ Gr w w' b) :
    Calls Tryz.prog 151 #[.pointer (some ⟨b, 0, none⟩), .int .i64 sch, .int .i64 kind, .int .i64 count] w fun e w' => e = dmg ∧ Gr w w' b := by
  have HC := hide hcall
  clear hcall
  rcases hf with ⟨rfl, rfl⟩ | ⟨rfl, rfl⟩ | ⟨rfl, rfl⟩
  · go_enter Tryz.func151, Tryz.ntmps151
    go_wp2_with (go_at_call 162; refine (unhide HC).mono ?_; rintro e w1 ⟨rfl, h1⟩)
    exact ⟨rfl, rfl, h1⟩
  · go_enter Tryz.func151, Tryz.ntmps151
    go_wp2_with (go_at_call 163; refine (unhide HC).mono ?_; rintro e w1 ⟨rfl, h1⟩)
    exact ⟨rfl, rfl, h1⟩
  · go_enter Tryz.func151, Tryz.ntmps151
    go_wp2_with (go_at_call 164; refine (unhide HC).mono ?_; rintro e w1 ⟨rfl, h1⟩)
    exact ⟨rfl, rfl, h1⟩
set_option maxHeartbeats 400000 in
set_option maxRecDepth 100000 in
theorem values_die4 {b count : Nat} {w : World} (hcall : Calls Tryz.prog 165 #[.pointer (some ⟨b, 0, none⟩), .int .i64 count] w fun e w' => e = dmg ∧ Gr w w' b) :
    Calls Tryz.prog 151 #[.pointer (some ⟨b, 0, none⟩), .int .i64 4, .int .i64 1, .int .i64 count] w fun e w' => e = dmg ∧ Gr w w' b := by
  have HC := hide hcall
  clear hcall
  go_enter Tryz.func151, Tryz.ntmps151
  go_wp2_with (first
    | (go_at_call 149; refine (ensure_yes _).mono ?_; rintro e w4 ⟨rfl, rfl⟩)
    | (go_at_call 165; refine (unhide HC).mono ?_; rintro e w1 ⟨rfl, h1⟩))
  exact ⟨rfl, rfl, h1⟩
set_option maxHeartbeats 400000 in
set_option maxRecDepth 100000 in
theorem values_die5 {b count : Nat} {sch kind : Int} {w : World} (h1 : sch ≠ 1) (h2 : sch ≠ 2) (h3 : sch ≠ 3) (h4 : ¬ (sch = 4 ∧ kind = 1)) :
    Calls Tryz.prog 151 #[.pointer (some ⟨b, 0, none⟩), .int .i64 sch, .int .i64 kind, .int .i64 count] w fun e w' => e = dmg ∧ Gr w w' b := by
  have e1 : (sch == 1) = false := by simpa using h1
  have e2 : (sch == 2) = false := by simpa using h2
  have e3 : (sch == 3) = false := by simpa using h3
  by_cases g : sch = 4
  · subst g
    have e5 : (kind == 1) = false := by simp; exact fun e => h4 ⟨rfl, e⟩
    clear h1 h2 h3 h4
    go_enter Tryz.func151, Tryz.ntmps151
    go_wp2_with (go_at_call 149; refine (ensure_no _).mono ?_; rintro e w4 ⟨rfl, rfl⟩)
    exact ⟨rfl, rfl, Gr.refl _ _⟩
  · have e4 : (sch == 4) = false := by simpa using g
    clear h1 h2 h3 h4 g
    go_enter Tryz.func151, Tryz.ntmps151
    go_wp2_with (go_at_call 149; refine (ensure_no _).mono ?_; rintro e w4 ⟨rfl, rfl⟩)
    exact ⟨rfl, rfl, Gr.refl _ _⟩
theorem dies_of {w w' : World} {e : Ending} {b : Nat} (h : PlainsR w w' e b none) : e = dmg ∧ Gr w w' b := by
  rcases h with ⟨vs', r', v, he, _⟩ | ⟨_, he, hg⟩
  · cases he
  · exact ⟨he, hg⟩
theorem values_no {b count sch : Nat} {kind : Int} {w : World} {l : List UInt8} (hc : count ≤ 4096) (hk : kind = 1 ∨ kind = 2) (h : Rd w b l) (hl : l.length ≤ 140737488355328) (hv : valuesD sch kind count l = none) :
    Calls Tryz.prog 151 #[.pointer (some ⟨b, 0, none⟩), .int .i64 (sch : Int), .int .i64 kind, .int .i64 count] w fun e w' => e = dmg ∧ Gr w w' b := by
  unfold valuesD at hv
  split at hv
  · rename_i hs
    subst hs
    refine values_die 162 (.inl ⟨rfl, rfl⟩) ?_
    have := plains_any b count kind l w hk (by omega) h hl
    rw [hv] at this
    exact this.mono fun e w' h => dies_of h
  · rename_i n1
    split at hv
    · rename_i hs
      subst hs
      exact values_die 163 (.inr (.inl ⟨rfl, rfl⟩)) (runs_no hc hk h hl hv)
    · rename_i n2
      split at hv
      · rename_i hs
        subst hs
        exact values_die 164 (.inr (.inr ⟨rfl, rfl⟩)) (words_no hc hk h hl hv)
      · rename_i n3
        split at hv
        · rename_i hs
          obtain ⟨rfl, rfl⟩ := hs
          refine values_die4 ?_
          have := offsets_any b count l w hc h hl
          rw [hv] at this
          exact this.mono fun e w' h => dies_of h
        · rename_i n4
          exact values_die5 (by omega) (by omega) (by omega) (fun ⟨g1, g2⟩ => n4 ⟨by omega, g2⟩)
theorem nulls_y {b n : Nat} {l3 l4 : List UInt8} {nl : List Bool} (hn : n ≤ 4096) (hl : l3.length ≤ 140737488355328) (h4 : nullsD n l3 = some (nl, l4)) (W : World) (hW : Rd W b l3) :
    Calls Tryz.prog 150 #[.pointer (some ⟨b, 0, none⟩), .int .i64 n] W fun e w' => ∃ g, e = .returned (.tuple #[.slice (some ⟨g, 0, none⟩) n n, .int .i64 (nl.count true : Nat)]) ∧ w'.rowIs g 4 n (fun j => .bool (nl.getD j false)) ∧ W.heap.size ≤ g ∧ Rd w' b l4 ∧ Gr W w' b := by
  have := nulls_any b n l3 W hn hW hl
  rw [h4] at this
  refine this.mono ?_
  rintro e w' (⟨nl', r', g, he, g1, g2, g3, g4, g5, g6⟩ | ⟨he, _⟩)
  · injection he with he; injection he with e1 e2; subst e1; subst e2
    exact ⟨g, g1, g2, g4, g5, g6⟩
  · cases he
theorem nulls_n {b n : Nat} {l3 : List UInt8} (hn : n ≤ 4096) (hl : l3.length ≤ 140737488355328) (h4 : nullsD n l3 = none) (W : World) (hW : Rd W b l3) :
    Calls Tryz.prog 150 #[.pointer (some ⟨b, 0, none⟩), .int .i64 n] W fun e w' => e = dmg ∧ Gr W w' b := by
  have := nulls_any b n l3 W hn hW hl
  rw [h4] at this
  refine this.mono ?_
  rintro e w' (⟨nl', r', g, he, _⟩ | ⟨_, he, hg⟩)
  · cases he
  · exact ⟨he, hg⟩
theorem count_bool : ∀ m : List Bool, m.count false + m.count true = m.length := by
  intro m
  induction m with
  | nil => rfl
  | cons a m ih => cases a <;> simp [List.count_cons] <;> omega
set_option maxHeartbeats 400000 in
set_option maxRecDepth 100000 in
theorem col_no1 {b : Nat} {l : List UInt8} {w : World} (h : Rd w b l) (hl : l.length ≤ 140737488355328) (h1 : numD 1 l = none) :
    Calls Tryz.prog 121 #[.pointer (some ⟨b, 0, none⟩)] w fun e w' => e = dmg ∧ Gr w w' b := by
  have C1 := hide (fun o => numd_no (h.alloc o) hl h1)
  clear h
  go_enter Tryz.func121, Tryz.ntmps121
  go_wp2_with (go_at_call 148; refine (unhide C1 _).mono ?_; rintro e w1 ⟨rfl, rfl⟩)
  exact ⟨rfl, rfl, Gr.alloc _ _ _⟩
set_option maxHeartbeats 400000 in
set_option maxRecDepth 100000 in
theorem col_no2 {b sch : Nat} {l l1 : List UInt8} {w : World} (h : Rd w b l) (hl : l.length ≤ 140737488355328) (h1 : numD 1 l = some (sch, l1)) (h2 : numD 1 l1 = none) :
    Calls Tryz.prog 121 #[.pointer (some ⟨b, 0, none⟩)] w fun e w' => e = dmg ∧ Gr w w' b := by
  have b1 := numD_le h1
  have hsch := num1_lt h1
  have C1 := hide (fun o => numd_yes (h.alloc o) hl h1 (by decide))
  have C2 := hide (fun W (hW : Rd W b l1) => numd_no hW (by omega) h2)
  clear h
  go_enter Tryz.func121, Tryz.ntmps121
  go_wp2_with (go_at_call 148; first | (refine (unhide C2 _ hr1).mono ?_; rintro e w2 ⟨rfl, rfl⟩) | (refine (unhide C1 _).mono ?_; rintro e w1 ⟨rfl, hr1, hg1⟩))
  exact ⟨rfl, rfl, hg1.of_alloc⟩
set_option maxHeartbeats 400000 in
set_option maxRecDepth 100000 in
theorem col_no3 {b sch kd : Nat} {l l1 l2 : List UInt8} {w : World} (h : Rd w b l) (hl : l.length ≤ 140737488355328) (h1 : numD 1 l = some (sch, l1)) (h2 : numD 1 l1 = some (kd, l2)) (hk : ¬ (kd = 1 ∨ kd = 2)) :
    Calls Tryz.prog 121 #[.pointer (some ⟨b, 0, none⟩)] w fun e w' => e = dmg ∧ Gr w w' b := by
  have b1 := numD_le h1
  have hsch := num1_lt h1
  have hkd := num1_lt h2
  have C1 := hide (fun o => numd_yes (h.alloc o) hl h1 (by decide))
  have C2 := hide (fun W (hW : Rd W b l1) => numd_yes hW (by omega) h2 (by decide))
  have k1 : ((kd : Int) == 1) = false := by simp; omega
  have k2 : ((kd : Int) == 2) = false := by simp; omega
  clear h hk
  go_enter Tryz.func121, Tryz.ntmps121
  go_wp2_with (first
    | (go_at_call 148; first | (refine (unhide C2 _ hr1).mono ?_; rintro e w2 ⟨rfl, hr2, hg2⟩) | (refine (unhide C1 _).mono ?_; rintro e w1 ⟨rfl, hr1, hg1⟩))
    | (go_at_call 149; refine (ensure_no _).mono ?_; rintro e wE ⟨rfl, rfl⟩))
  exact ⟨rfl, rfl, hg1.of_alloc.trans hg2⟩
set_option maxHeartbeats 400000 in
set_option maxRecDepth 100000 in
theorem col_no4 {b sch kd : Nat} {l l1 l2 : List UInt8} {w : World} (h : Rd w b l) (hl : l.length ≤ 140737488355328) (h1 : numD 1 l = some (sch, l1)) (h2 : numD 1 l1 = some (kd, l2)) (hk : kd = 1 ∨ kd = 2) (h3 : numD 4 l2 = none) :
    Calls Tryz.prog 121 #[.pointer (some ⟨b, 0, none⟩)] w fun e w' => e = dmg ∧ Gr w w' b := by
  have b1 := numD_le h1
  have b2 := numD_le h2
  have hsch := num1_lt h1
  have C1 := hide (fun o => numd_yes (h.alloc o) hl h1 (by decide))
  have C2 := hide (fun W (hW : Rd W b l1) => numd_yes hW (by omega) h2 (by decide))
  have C3 := hide (fun W (hW : Rd W b l2) => numd_no hW (by omega) h3)
  clear h h2
  rcases hk with rfl | rfl
  all_goals
    go_enter Tryz.func121, Tryz.ntmps121
    go_wp2_with (first
      | (go_at_call 148; first | (refine (unhide C3 _ hr2).mono ?_; rintro e w3 ⟨rfl, rfl⟩) | (refine (unhide C2 _ hr1).mono ?_; rintro e w2 ⟨rfl, hr2, hg2⟩) | (refine (unhide C1 _).mono ?_; rintro e w1 ⟨rfl, hr1, hg1⟩))
      | (go_at_call 149; refine (ensure_yes _).mono ?_; rintro e wE ⟨rfl, rfl⟩))
    exact ⟨rfl, rfl, hg1.of_alloc.trans hg2⟩
set_option maxHeartbeats 400000 in
set_option maxRecDepth 100000 in
theorem col_no5 {b sch kd n : Nat} {l l1 l2 l3 : List UInt8} {w : World} (h : Rd w b l) (hl : l.length ≤ 140737488355328) (h1 : numD 1 l = some (sch, l1)) (h2 : numD 1 l1 = some (kd, l2)) (hk : kd = 1 ∨ kd = 2) (h3 : numD 4 l2 = some (n, l3)) (hn : ¬ n ≤ 4096) :
    Calls Tryz.prog 121 #[.pointer (some ⟨b, 0, none⟩)] w fun e w' => e = dmg ∧ Gr w w' b := by
  have b1 := numD_le h1
  have b2 := numD_le h2
  have hsch := num1_lt h1
  have C1 := hide (fun o => numd_yes (h.alloc o) hl h1 (by decide))
  have C2 := hide (fun W (hW : Rd W b l1) => numd_yes hW (by omega) h2 (by decide))
  have C3 := hide (fun W (hW : Rd W b l2) => numd_yes hW (by omega) h3 (by decide))
  have HNN : Hid (decide ((n : Int) ≤ 4096) = false) := decide_eq_false (by omega)
  clear h h2 hn h3
  rcases hk with rfl | rfl
  all_goals
    go_enter Tryz.func121, Tryz.ntmps121
    go_wp2_with (first
      | (go_at_call 148; first | (refine (unhide C3 _ hr2).mono ?_; rintro e w3 ⟨rfl, hr3, hg3⟩) | (refine (unhide C2 _ hr1).mono ?_; rintro e w2 ⟨rfl, hr2, hg2⟩) | (refine (unhide C1 _).mono ?_; rintro e w1 ⟨rfl, hr1, hg1⟩))
      | (go_at_call 149; first | (refine (ensure_yes _).mono ?_; rintro e wE ⟨rfl, rfl⟩) | (refine (ensureF _ (unhide HNN) _).mono ?_; rintro e wF ⟨rfl, rfl⟩)))
    exact ⟨rfl, rfl, (hg1.of_alloc.trans hg2).trans hg3⟩
set_option maxHeartbeats 400000 in
set_option maxRecDepth 100000 in
theorem col_no6 {b sch kd n : Nat} {l l1 l2 l3 : List UInt8} {w : World} (h : Rd w b l) (hl : l.length ≤ 140737488355328) (h1 : numD 1 l = some (sch, l1)) (h2 : numD 1 l1 = some (kd, l2)) (hk : kd = 1 ∨ kd = 2) (h3 : numD 4 l2 = some (n, l3)) (hn : n ≤ 4096) (h4 : nullsD n l3 = none) :
    Calls Tryz.prog 121 #[.pointer (some ⟨b, 0, none⟩)] w fun e w' => e = dmg ∧ Gr w w' b := by
  have b1 := numD_le h1
  have b2 := numD_le h2
  have b3 := numD_le h3
  have hsch := num1_lt h1
  have C1 := hide (fun o => numd_yes (h.alloc o) hl h1 (by decide))
  have C2 := hide (fun W (hW : Rd W b l1) => numd_yes hW (by omega) h2 (by decide))
  have C3 := hide (fun W (hW : Rd W b l2) => numd_yes hW (by omega) h3 (by decide))
  have C4 := hide (nulls_n (b := b) hn (by omega) h4)
  have hni : (n : Int) ≤ 4096 := by omega
  clear h h2 h3 h4
  rcases hk with rfl | rfl
  all_goals
    go_enter Tryz.func121, Tryz.ntmps121
    go_wp2_with (first
      | (go_at_call 148; first | (refine (unhide C3 _ hr2).mono ?_; rintro e w3 ⟨rfl, hr3, hg3⟩) | (refine (unhide C2 _ hr1).mono ?_; rintro e w2 ⟨rfl, hr2, hg2⟩) | (refine (unhide C1 _).mono ?_; rintro e w1 ⟨rfl, hr1, hg1⟩))
      | (go_at_call 149; refine (ensure_yes _).mono ?_; rintro e wE ⟨rfl, rfl⟩)
      | (go_at_call 150; refine (unhide C4 _ hr3).mono ?_; rintro e w4 ⟨rfl, hg4⟩))
    exact ⟨rfl, rfl, ((hg1.of_alloc.trans hg2).trans hg3).trans hg4⟩
set_option maxHeartbeats 400000 in
set_option maxRecDepth 100000 in
theorem col_no7 {b sch kd n : Nat} {l l1 l2 l3 l4 : List UInt8} {nl : List Bool} {w : World} (h : Rd w b l) (hl : l.length ≤ 140737488355328) (h1 : numD 1 l = some (sch, l1)) (h2 : numD 1 l1 = some (kd, l2)) (hk : kd = 1 ∨ kd = 2) (h3 : numD 4 l2 = some (n, l3)) (hn : n ≤ 4096) (h4 : nullsD n l3 = some (nl, l4)) (h5 : valuesD sch (kd : Int) (nl.count false) l4 = none) :
    Calls Tryz.prog 121 #[.pointer (some ⟨b, 0, none⟩)] w fun e w' => e = dmg ∧ Gr w w' b := by
  have b1 := numD_le h1
  have b2 := numD_le h2
  have b3 := numD_le h3
  obtain ⟨hnl, b4⟩ := nullsD_len h4
  have hct := count_bool nl
  have hsch := num1_lt h1
  have C1 := hide (fun o => numd_yes (h.alloc o) hl h1 (by decide))
  have C2 := hide (fun W (hW : Rd W b l1) => numd_yes hW (by omega) h2 (by decide))
  have C3 := hide (fun W (hW : Rd W b l2) => numd_yes hW (by omega) h3 (by decide))
  have C4 := hide (nulls_y (b := b) hn (by omega) h4)
  have hki : ((kd : Int)) = 1 ∨ (kd : Int) = 2 := by omega
  have hcf : nl.count false ≤ 4096 := by omega
  have C5 := hide (fun W (hW : Rd W b l4) => values_no hcf hki hW (by omega) h5)
  have hni : (n : Int) ≤ 4096 := by omega
  obtain ⟨cT, hcT⟩ : ∃ cT, cT = nl.count true := ⟨_, rfl⟩
  obtain ⟨cF, hcF⟩ : ∃ cF, cF = nl.count false := ⟨_, rfl⟩
  rw [← hcT] at C4
  rw [← hcF] at C5
  have e1 : (n : Int) - (cT : Int) = (cF : Int) := by omega
  have hcTn : cT ≤ n := by omega
  clear h h2 h3 h4 h5 hct hcT hcF hnl hcf
  rcases hk with rfl | rfl
  all_goals
    go_enter Tryz.func121, Tryz.ntmps121
    go_wp2_with (first
      | (go_at_call 148; first | (refine (unhide C3 _ hr2).mono ?_; rintro e w3 ⟨rfl, hr3, hg3⟩) | (refine (unhide C2 _ hr1).mono ?_; rintro e w2 ⟨rfl, hr2, hg2⟩) | (refine (unhide C1 _).mono ?_; rintro e w1 ⟨rfl, hr1, hg1⟩))
      | (go_at_call 149; refine (ensure_yes _).mono ?_; rintro e wE ⟨rfl, rfl⟩)
      | (go_at_call 150; refine (unhide C4 _ hr3).mono ?_; rintro e w4 ⟨g, rfl, hrow4, hgl4, hr4, hg4⟩)
      | (go_at_call 151; refine (unhide C5 _ hr4).mono ?_; rintro e w5 ⟨rfl, hg5⟩))
    exact ⟨rfl, rfl, (((hg1.of_alloc.trans hg2).trans hg3).trans hg4).trans hg5⟩
set_option maxHeartbeats 400000 in
set_option maxRecDepth 100000 in
theorem col_no8 {b sch kd n : Nat} {l l1 l2 l3 l4 r : List UInt8} {nl : List Bool} {vs : List Val} {w : World} (h : Rd w b l) (hl : l.length ≤ 140737488355328) (h1 : numD 1 l = some (sch, l1)) (h2 : numD 1 l1 = some (kd, l2)) (hk : kd = 1 ∨ kd = 2) (h3 : numD 4 l2 = some (n, l3)) (hn : n ≤ 4096) (h4 : nullsD n l3 = some (nl, l4)) (h5 : valuesD sch (kd : Int) (nl.count false) l4 = some (vs, r)) (hr : r ≠ []) :
    Calls Tryz.prog 121 #[.pointer (some ⟨b, 0, none⟩)] w fun e w' => e = dmg ∧ Gr w w' b := by
  have b1 := numD_le h1
  have b2 := numD_le h2
  have b3 := numD_le h3
  obtain ⟨hnl, b4⟩ := nullsD_len h4
  have hct := count_bool nl
  have hsch := num1_lt h1
  have C1 := hide (fun o => numd_yes (h.alloc o) hl h1 (by decide))
  have C2 := hide (fun W (hW : Rd W b l1) => numd_yes hW (by omega) h2 (by decide))
  have C3 := hide (fun W (hW : Rd W b l2) => numd_yes hW (by omega) h3 (by decide))
  have C4 := hide (nulls_y (b := b) hn (by omega) h4)
  have hki : ((kd : Int)) = 1 ∨ (kd : Int) = 2 := by omega
  have hcf : nl.count false ≤ 4096 := by omega
  have C5 := hide (fun W (hW : Rd W b l4) => values_yes hcf hki hW (by omega) h5)
  have hni : (n : Int) ≤ 4096 := by omega
  obtain ⟨cT, hcT⟩ : ∃ cT, cT = nl.count true := ⟨_, rfl⟩
  obtain ⟨cF, hcF⟩ : ∃ cF, cF = nl.count false := ⟨_, rfl⟩
  rw [← hcT] at C4
  rw [← hcF] at C5
  have e1 : (n : Int) - (cT : Int) = (cF : Int) := by omega
  have hcTn : cT ≤ n := by omega
  have HRE : Hid ((bs r).toList.isEmpty = false) := by
    show _ = _
    cases hq : (bs r).toList.isEmpty with
    | false => rfl
    | true =>
      have := congrArg List.length (List.isEmpty_iff.1 hq)
      cases r with
      | nil => exact absurd rfl hr
      | cons a r => simp [bs, ByteArray.toList_eq] at this
  clear h h2 h3 h4 h5 hct hcT hcF hnl hcf
  rcases hk with rfl | rfl
  all_goals
    go_enter Tryz.func121, Tryz.ntmps121
    go_wp2_with (first
      | (go_at_call 148; first | (refine (unhide C3 _ hr2).mono ?_; rintro e w3 ⟨rfl, hr3, hg3⟩) | (refine (unhide C2 _ hr1).mono ?_; rintro e w2 ⟨rfl, hr2, hg2⟩) | (refine (unhide C1 _).mono ?_; rintro e w1 ⟨rfl, hr1, hg1⟩))
      | (go_at_call 149; first | (refine (ensure_yes _).mono ?_; rintro e wE ⟨rfl, rfl⟩) | (refine (ensureF _ (unhide HRE) _).mono ?_; rintro e wF ⟨rfl, rfl⟩))
      | (go_at_call 150; refine (unhide C4 _ hr3).mono ?_; rintro e w4 ⟨g, rfl, hrow4, hgl4, hr4, hg4⟩)
      | (go_at_call 151; refine (unhide C5 _ hr4).mono ?_; rintro e w5 ⟨v5, rfl, ho5, hr5, hg5⟩; obtain ⟨a5, c5, rfl, _, _, hrw5⟩ := ownV_slice ho5; have c9 : w5.cell? ⟨b, 0, none⟩ = some (.string (bs r)) := hr5.cell))
    exact ⟨rfl, rfl, (((hg1.of_alloc.trans hg2).trans hg3).trans hg4).trans hg5⟩
theorem column_no {b : Nat} {l : List UInt8} {w : World} (h : Rd w b l) (hl : l.length ≤ 140737488355328) (hd : columnD l = none) :
    Calls Tryz.prog 121 #[.pointer (some ⟨b, 0, none⟩)] w fun e w' => e = dmg ∧ Gr w w' b := by
  unfold columnD at hd
  cases h1 : numD 1 l with
  | none => exact col_no1 h hl h1
  | some a =>
    obtain ⟨sch, l1⟩ := a
    rw [h1, Option.bind_some] at hd
    cases h2 : numD 1 l1 with
    | none => exact col_no2 h hl h1 h2
    | some q =>
      obtain ⟨kd, l2⟩ := q
      simp only [h2, Option.bind_some] at hd
      by_cases hk : kd = 1 ∨ kd = 2
      · rw [if_pos hk] at hd
        cases h3 : numD 4 l2 with
        | none => exact col_no4 h hl h1 h2 hk h3
        | some q =>
          obtain ⟨n, l3⟩ := q
          simp only [h3, Option.bind_some] at hd
          by_cases hn : n ≤ 4096
          · rw [if_pos hn] at hd
            cases h4 : nullsD n l3 with
            | none => exact col_no6 h hl h1 h2 hk h3 hn h4
            | some q =>
              obtain ⟨nl, l4⟩ := q
              simp only [h4, Option.bind_some] at hd
              cases h5 : valuesD sch (kd : Int) (nl.count false) l4 with
              | none => exact col_no7 h hl h1 h2 hk h3 hn h4 h5
              | some q =>
                obtain ⟨vs, r⟩ := q
                simp only [h5, Option.bind_some] at hd
                by_cases hr : r = []
                · rw [if_pos hr] at hd; cases hd
                · exact col_no8 h hl h1 h2 hk h3 hn h4 h5 hr
          · exact col_no5 h hl h1 h2 hk h3 hn
      · exact col_no3 h hl h1 h2 hk
end Go.Proofs.YthbfomcmjjnikaaGreat
set_option linter.unusedSimpArgs false
set_option linter.unusedVariables false
namespace Go.Proofs.YthbfomcmjjnikaaGreat
open Go.RowKit Go.Sort

theorem wp_cast {P : Program} {c : Code} {Q : Exit → Act → World → Prop} {T T' : Array Value} {ds : List Deferred} {w : World} (e : T = T') (h : c.wp P Q { tmps := T', defers := ds } w) : c.wp P Q { tmps := T, defers := ds } w := e ▸ h
set_option maxHeartbeats 1000000 in
set_option maxRecDepth 100000 in
theorem catch_dmg (g h : Nat) (w : World) (hg : w.rowIs g 146 3 (box86 (.int .i64 0) (.int .i64 0) (.slice none 0 0))) (hh : At1 w h 24 (.int .i64 0)) (hgh : g ≠ h) :
    CallsD Tryz.prog 120 #[.pointer (some ⟨g, 0, none⟩), .pointer (some ⟨h, 0, none⟩)] (.panicking [{ v := .iface 169 (.agg #[]), recovered := false }]) w fun e u' w' => e = .returned (.tuple #[]) ∧ u' = .panicking [{ v := .iface 169 (.agg #[]), recovered := true }] ∧
      w' = ((((w.alloc (.cells #[] 169)).setCell ⟨g, 0, none⟩ (.int .i64 0)).setCell ⟨g, 1, none⟩ (.int .i64 0)).setCell ⟨g, 2, none⟩ (.slice none 0 0)).setCell ⟨h, 0, none⟩ (.int .i64 2) := by
  obtain ⟨p0, p1, p2, q0, q1, q2⟩ := box86_facts (hg.alloc (.cells #[] 169))
  have y0 := (hh.new (.cells #[] 169)).cell
  have z0 := World.rowIs.frozen (hh.new (.cells #[] 169)) 0
  have hta : ∀ w : World, (Instr.typeAssert (Value.iface 169 (Value.agg #[])) 20 169 true).run Tryz.prog w = .ok (.tuple #[.agg #[], .bool true]) w := fun _ => by kernel_rfl
  refine callsD_of_wpS Tryz.func120 rfl fun c₀ cs hu => ?_
  apply wpS_seq
  apply wpS_region
  simp [wpOpsS, go_sem, recoverD, hu, Tryz.ntmps120, Exit.thenS]
  refine wpS_of_wp ?_
  refine wp_cast (T' := #[.pointer (some ⟨g, 0, none⟩), .pointer (some ⟨h, 0, none⟩), .iface 169 (.agg #[]), undef, undef, .iface 169 (.agg #[]), undef, undef, undef, undef, undef, undef, undef, undef, undef, undef, undef]) (by rfl) ?_
  go_wp2
  exact ⟨rfl, _, rfl, _, by simp [results, Tryz.results120, go_sem], rfl, rfl, rfl⟩
set_option maxHeartbeats 400000 in
set_option maxRecDepth 100000 in
theorem opened_no {l : List UInt8} {w : World} (hl : l.length ≤ 140737488355328) (hd : columnD l = none) :
    Calls Tryz.prog 101 #[.string (bs l)] w fun e w' => e = .returned (.tuple #[.agg #[.int .i64 0, .int .i64 0, .slice none 0 0], .int .i64 2]) ∧ Below w.heap.size w w' := by
  have hmf := makeFunc_run
  have HC : Hid (∀ o1 o2, Calls Tryz.prog 121 #[.pointer (some ⟨w.heap.size + 1 + 1, 0, none⟩)] (((w.alloc o1).alloc o2).alloc (.cells #[.string (bs l)] 172)) fun e w' => e = dmg ∧ Gr (((w.alloc o1).alloc o2).alloc (.cells #[.string (bs l)] 172)) w' (w.heap.size + 1 + 1)) := fun o1 o2 => by
    have h := Rd.made ((w.alloc o1).alloc o2) l
    have e : ((w.alloc o1).alloc o2).heap.size = w.heap.size + 1 + 1 := by simp
    rw [e] at h
    exact column_no h hl hd
  have HX : Hid (∀ w1 o, Gr (((w.alloc (.cells #[.int .i64 0, .int .i64 0, .slice none 0 0] 146)).alloc (.cells #[.int .i64 0] 24)).alloc o) w1 (w.heap.size + 1 + 1) → w1.rowIs w.heap.size 146 3 (box86 (.int .i64 0) (.int .i64 0) (.slice none 0 0)) ∧ At1 w1 (w.heap.size + 1) 24 (.int .i64 0)) := fun w1 o hg => by
    refine ⟨row_grx (((box86_alloc w _ _ _).alloc _).alloc _) hg (by omega), ?_⟩
    have h := At1.alloc (w.alloc (.cells #[.int .i64 0, .int .i64 0, .slice none 0 0] 146)) 24 (.int .i64 0)
    have e : (w.alloc (.cells #[.int .i64 0, .int .i64 0, .slice none 0 0] 146)).heap.size = w.heap.size + 1 := by simp
    rw [e] at h
    exact (h.new o).gr hg (by omega)
  go_enter_defers Tryz.func101, Tryz.ntmps101
  go_wp2_with (go_at_call 121; refine (unhide HC _ _).mono ?_; rintro e w1 ⟨rfl, hg1⟩; obtain ⟨hx1, hx2⟩ := unhide HX w1 _ hg1)
  refine leaves_cons (f := 120) (args := #[.pointer (some ⟨w.heap.size, 0, none⟩), .pointer (some ⟨w.heap.size + 1, 0, none⟩)]) (by simp) (by simp [go_sem]) ?_
  refine (catch_dmg w.heap.size (w.heap.size + 1) _ hx1 hx2 (by omega)).mono ?_
  rintro e u' w'' ⟨rfl, rfl, hw⟩
  have hz : w.heap.size + 1 + 1 + 1 ≤ w1.heap.size := by have := hg1.size; simpa using this
  have hb : Below w.heap.size w w1 := by
    refine ⟨hg1.os, hg1.tape, hg1.output, by omega, fun i hi => ?_⟩
    rw [hg1.block i (by simp; omega) (fun e => by injection e with e; omega), Below.heap_alloc _ _ _ (by simp; omega), Below.heap_alloc _ _ _ (by simp; omega), Below.heap_alloc _ _ _ hi]
  have hB : Below w.heap.size w w'' := by
    rw [hw]
    exact ((((below_alloc hb _).setCell (p := ⟨w.heap.size, 0, none⟩) (Nat.le_refl _) _).setCell (p := ⟨w.heap.size, 1, none⟩) (Nat.le_refl _) _).setCell (p := ⟨w.heap.size, 2, none⟩) (Nat.le_refl _) _).setCell (p := ⟨w.heap.size + 1, 0, none⟩) (by simp) _
  have hx3 : w''.rowIs w.heap.size 146 3 (box86 (.int .i64 0) (.int .i64 0) (.slice none 0 0)) := by
    rw [hw]
    refine World.rowIs.setOther ?_ (by simp) _
    refine World.rowIs.congr (World.rowIs.set (World.rowIs.set (World.rowIs.set (World.rowIs.alloc hx1 (.cells #[] 169)) 0 (.int .i64 0)) 1 (.int .i64 0)) 2 (.slice none 0 0)) ?_
    intro i hi
    match i, hi with
    | 0, _ => rfl
    | 1, _ => rfl
    | 2, _ => rfl
  have hx4 : At1 w'' (w.heap.size + 1) 24 (.int .i64 2) := by
    rw [hw]
    refine World.rowIs.congr (World.rowIs.set (World.rowIs.setOther (World.rowIs.setOther (World.rowIs.setOther (World.rowIs.alloc hx2 (.cells #[] 169)) (by simp) _) (by simp) _) (by simp) _) 0 (.int .i64 2)) ?_
    intro i hi
    have e0 : i = 0 := by omega
    subst e0
    simp
  obtain ⟨p0, p1, p2, q0, q1, q2⟩ := box86_facts hx3
  have y0 := hx4.cell
  clear hw hx1 hx2
  refine ⟨.tuple #[.agg #[.int .i64 0, .int .i64 0, .slice none 0 0], .int .i64 2], ?_, rfl, hB⟩
  simp [results, Tryz.results101, go_sem, p0, p1, p2, y0]
end Go.Proofs.YthbfomcmjjnikaaGreat
set_option linter.unusedSimpArgs false
set_option linter.unusedVariables false
namespace Go.Proofs.YthbfomcmjjnikaaGreat
open Go.RowKit Go.Sort

/-- What isn't a column isn't opened. -/
def Shut (s : ByteArray) : Prop := ∀ W, Calls Tryz.prog 101 #[.string s] W fun e w' => e = .returned (.tuple #[.agg #[.int .i64 0, .int .i64 0, .slice none 0 0], .int .i64 2]) ∧ Below W.heap.size W w'
theorem shut_of {s : ByteArray} (hl : s.size ≤ 140737488355328) (h : columnD s.data.toList = none) : Shut s := fun W => by
  have := opened_no (w := W) (by rw [Array.length_toList]; exact hl) h
  rw [bs_of] at this
  exact this
set_option maxHeartbeats 400000 in
theorem pread_no {s : ByteArray} (h : Shut s) (w : World) : Calls Tryz.prog 93 #[.string s] w fun e w' => e = .returned (.tuple #[zeroVec, .int .i64 2]) ∧ Below w.heap.size w w' := by
  have H := hide h
  clear h
  go_enter Tryz.func93, Tryz.ntmps93
  go_wp2_with (go_at_call 101; refine (unhide H _).mono ?_; rintro e w1 ⟨rfl, hb1⟩; obtain ⟨⟨b0, b1, b2, b3⟩, q0, q1, q2, q3⟩ := zero26_facts (below_alloc hb1 (.cells #[.int .i64 0, .int .i64 0, .slice none 0 0] 146)))
  refine bodyPost_ret (v := .tuple #[zeroVec, .int .i64 2]) (by simp [results, Tryz.results93, go_sem, zeroVec, *]) rfl ⟨rfl, ?_⟩
  exact put4 (below_alloc (below_one hb1) _) _ _ _ _
abbrev zero37 : Obj := .cells #[.int .i64 0, .int .i64 0, .string ⟨#[]⟩] 59
theorem zero37_facts {w W : World} {B : Nat} {o : Obj} (hB : B = w.heap.size) (ho : o = zero37) (h : Below (w.alloc o).heap.size (w.alloc o) W) :
    (W.cell? ⟨B, 0, none⟩ = some (.int .i64 0) ∧ W.cell? ⟨B, 1, none⟩ = some (.int .i64 0) ∧ W.cell? ⟨B, 2, none⟩ = some (.string ⟨#[]⟩)) ∧
    (W.frozen? ⟨B, 0, none⟩ = false ∧ W.frozen? ⟨B, 1, none⟩ = false ∧ W.frozen? ⟨B, 2, none⟩ = false) := by
  subst hB ho
  obtain ⟨h0, h1, h2, f0, f1, f2⟩ := box3_facts (rowIs_later (box3_alloc w Val.null) h)
  exact ⟨⟨h0, h1, h2⟩, f0, f1, f2⟩
theorem put3 {w W : World} {B : Nat} (hb : Below w.heap.size w W) (hB : w.heap.size ≤ B) (u v x : Value) : Below w.heap.size w (((W.setCell ⟨B, 0, none⟩ u).setCell ⟨B, 1, none⟩ v).setCell ⟨B, 2, none⟩ x) :=
  (((hb.setCell (by simpa using hB) _).setCell (by simpa using hB) _).setCell (by simpa using hB) _)
end Go.Proofs.YthbfomcmjjnikaaGreat
