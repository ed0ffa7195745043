import Derived.Test.YtjnggnhgambmkaaGreatRxB
import Derived.Test.YtjnggnhgambmkaaGreatRxC
set_option linter.unusedSimpArgs false
set_option linter.unusedVariables false
namespace Go.Proofs.YtjnggnhgambmkaaGreat
open Go.RowKit Go.Sort

set_option maxHeartbeats 400000 in
set_option maxRecDepth 100000 in
theorem values_die {b count : Nat} {sch kind : Int} {w : World} (f : Nat)
    (hf : (sch = 1 ∧ f = 72) ∨ (sch = 2 ∧ f = 73) ∨ (sch = 3 ∧ f = 74)) (hcall : Calls Tryz.prog f #[.pointer (some ⟨b, 0, none⟩), .int .i64 kind, .int .i64 count] w fun e w' => e = dmg ∧ Gr w w' b) :
    Calls Tryz.prog 56 #[.pointer (some ⟨b, 0, none⟩), .int .i64 sch, .int .i64 kind, .int .i64 count] w fun e w' => e = dmg ∧ Gr w w' b := by
  have HC := hide hcall
  clear hcall
  rcases hf with ⟨rfl, rfl⟩ | ⟨rfl, rfl⟩ | ⟨rfl, rfl⟩
  · go_enter Tryz.func56, Tryz.ntmps56
    go_wp2_with (go_at_call 72; refine (unhide HC).mono ?_; rintro e w1 ⟨rfl, h1⟩)
    exact ⟨rfl, rfl, h1⟩
  · go_enter Tryz.func56, Tryz.ntmps56
    go_wp2_with (go_at_call 73; refine (unhide HC).mono ?_; rintro e w1 ⟨rfl, h1⟩)
    exact ⟨rfl, rfl, h1⟩
  · go_enter Tryz.func56, Tryz.ntmps56
    go_wp2_with (go_at_call 74; refine (unhide HC).mono ?_; rintro e w1 ⟨rfl, h1⟩)
    exact ⟨rfl, rfl, h1⟩
set_option maxHeartbeats 400000 in
set_option maxRecDepth 100000 in
theorem values_die4 {b count : Nat} {w : World} (hcall : Calls Tryz.prog 75 #[.pointer (some ⟨b, 0, none⟩), .int .i64 count] w fun e w' => e = dmg ∧ Gr w w' b) :
    Calls Tryz.prog 56 #[.pointer (some ⟨b, 0, none⟩), .int .i64 4, .int .i64 1, .int .i64 count] w fun e w' => e = dmg ∧ Gr w w' b := by
  have HC := hide hcall
  clear hcall
  go_enter Tryz.func56, Tryz.ntmps56
  go_wp2_with (first
    | (go_at_call 54; refine (ensure_yes _).mono ?_; rintro e w4 ⟨rfl, rfl⟩)
    | (go_at_call 75; refine (unhide HC).mono ?_; rintro e w1 ⟨rfl, h1⟩))
  exact ⟨rfl, rfl, h1⟩
set_option maxHeartbeats 400000 in
set_option maxRecDepth 100000 in
theorem values_die5 {b count : Nat} {sch kind : Int} {w : World} (h1 : sch ≠ 1) (h2 : sch ≠ 2) (h3 : sch ≠ 3) (h4 : ¬ (sch = 4 ∧ kind = 1)) :
    Calls Tryz.prog 56 #[.pointer (some ⟨b, 0, none⟩), .int .i64 sch, .int .i64 kind, .int .i64 count] w fun e w' => e = dmg ∧ Gr w w' b := by
  have e1 : (sch == 1) = false := by simpa using h1
  have e2 : (sch == 2) = false := by simpa using h2
  have e3 : (sch == 3) = false := by simpa using h3
  by_cases g : sch = 4
  · subst g
    have e5 : (kind == 1) = false := by simp; exact fun e => h4 ⟨rfl, e⟩
    clear h1 h2 h3 h4
    go_enter Tryz.func56, Tryz.ntmps56
    go_wp2_with (go_at_call 54; refine (ensure_no _).mono ?_; rintro e w4 ⟨rfl, rfl⟩)
    exact ⟨rfl, rfl, Gr.refl _ _⟩
  · have e4 : (sch == 4) = false := by simpa using g
    clear h1 h2 h3 h4 g
    go_enter Tryz.func56, Tryz.ntmps56
    go_wp2_with (go_at_call 54; refine (ensure_no _).mono ?_; rintro e w4 ⟨rfl, rfl⟩)
    exact ⟨rfl, rfl, Gr.refl _ _⟩
theorem dies_of {w w' : World} {e : Ending} {b : Nat} (h : PlainsR w w' e b none) : e = dmg ∧ Gr w w' b := by
  rcases h with ⟨vs', r', v, he, _⟩ | ⟨_, he, hg⟩
  · cases he
  · exact ⟨he, hg⟩
theorem values_no {b count sch : Nat} {kind : Int} {w : World} {l : List UInt8} (hc : count ≤ 4096) (hk : kind = 1 ∨ kind = 2) (h : Rd w b l) (hl : l.length ≤ 140737488355328) (hv : valuesD sch kind count l = none) :
    Calls Tryz.prog 56 #[.pointer (some ⟨b, 0, none⟩), .int .i64 (sch : Int), .int .i64 kind, .int .i64 count] w fun e w' => e = dmg ∧ Gr w w' b := by
  unfold valuesD at hv
  split at hv
  · rename_i hs
    subst hs
    refine values_die 72 (.inl ⟨rfl, rfl⟩) ?_
    have := plains_any b count kind l w hk (by omega) h hl
    rw [hv] at this
    exact this.mono fun e w' h => dies_of h
  · rename_i n1
    split at hv
    · rename_i hs
      subst hs
      exact values_die 73 (.inr (.inl ⟨rfl, rfl⟩)) (runs_no hc hk h hl hv)
    · rename_i n2
      split at hv
      · rename_i hs
        subst hs
        exact values_die 74 (.inr (.inr ⟨rfl, rfl⟩)) (words_no hc hk h hl hv)
      · rename_i n3
        split at hv
        · rename_i hs
          obtain ⟨rfl, rfl⟩ := hs
          refine values_die4 ?_
          have := offsets_any b count l w hc h hl
          rw [hv] at this
          exact this.mono fun e w' h => dies_of h
        · rename_i n4
          exact values_die5 (by omega) (by omega) (by omega) (fun ⟨g1, g2⟩ => n4 ⟨by omega, g2⟩)
theorem nulls_y {b n : Nat} {l3 l4 : List UInt8} {nl : List Bool} (hn : n ≤ 4096) (hl : l3.length ≤ 140737488355328) (h4 : nullsD n l3 = some (nl, l4)) (W : World) (hW : Rd W b l3) :
    Calls Tryz.prog 55 #[.pointer (some ⟨b, 0, none⟩), .int .i64 n] W fun e w' => ∃ g, e = .returned (.tuple #[.slice (some ⟨g, 0, none⟩) n n, .int .i64 (nl.count true : Nat)]) ∧ w'.rowIs g 4 n (fun j => .bool (nl.getD j false)) ∧ W.heap.size ≤ g ∧ Rd w' b l4 ∧ Gr W w' b := by
  have := nulls_any b n l3 W hn hW hl
  rw [h4] at this
  refine this.mono ?_
  rintro e w' (⟨nl', r', g, he, g1, g2, g3, g4, g5, g6⟩ | ⟨he, _⟩)
  · injection he with he; injection he with e1 e2; subst e1; subst e2
    exact ⟨g, g1, g2, g4, g5, g6⟩
  · cases he
theorem nulls_n {b n : Nat} {l3 : List UInt8} (hn : n ≤ 4096) (hl : l3.length ≤ 140737488355328) (h4 : nullsD n l3 = none) (W : World) (hW : Rd W b l3) :
    Calls Tryz.prog 55 #[.pointer (some ⟨b, 0, none⟩), .int .i64 n] W fun e w' => e = dmg ∧ Gr W w' b := by
  have := nulls_any b n l3 W hn hW hl
  rw [h4] at this
  refine this.mono ?_
  rintro e w' (⟨nl', r', g, he, _⟩ | ⟨_, he, hg⟩)
  · cases he
  · exact ⟨he, hg⟩
theorem count_bool : ∀ m : List Bool, m.count false + m.count true = m.length := by
  intro m
  induction m with
  | nil => rfl
  | cons a m ih => cases a <;> simp [List.count_cons] <;> omega
set_option maxHeartbeats 400000 in
set_option maxRecDepth 100000 in
theorem col_no1 {b : Nat} {l : List UInt8} {w : World} (h : Rd w b l) (hl : l.length ≤ 140737488355328) (h1 : numD 1 l = none) :
    Calls Tryz.prog 43 #[.pointer (some ⟨b, 0, none⟩)] w fun e w' => e = dmg ∧ Gr w w' b := by
  have C1 := hide (fun o => numd_no (h.alloc o) hl h1)
  clear h
  go_enter Tryz.func43, Tryz.ntmps43
  go_wp2_with (go_at_call 53; refine (unhide C1 _).mono ?_; rintro e w1 ⟨rfl, rfl⟩)
  exact ⟨rfl, rfl, Gr.alloc _ _ _⟩
set_option maxHeartbeats 400000 in
set_option maxRecDepth 100000 in
theorem col_no2 {b sch : Nat} {l l1 : List UInt8} {w : World} (h : Rd w b l) (hl : l.length ≤ 140737488355328) (h1 : numD 1 l = some (sch, l1)) (h2 : numD 1 l1 = none) :
    Calls Tryz.prog 43 #[.pointer (some ⟨b, 0, none⟩)] w fun e w' => e = dmg ∧ Gr w w' b := by
  have b1 := numD_le h1
  have hsch := num1_lt h1
  have C1 := hide (fun o => numd_yes (h.alloc o) hl h1 (by decide))
  have C2 := hide (fun W (hW : Rd W b l1) => numd_no hW (by omega) h2)
  clear h
  go_enter Tryz.func43, Tryz.ntmps43
  go_wp2_with (go_at_call 53; first | (refine (unhide C2 _ hr1).mono ?_; rintro e w2 ⟨rfl, rfl⟩) | (refine (unhide C1 _).mono ?_; rintro e w1 ⟨rfl, hr1, hg1⟩))
  exact ⟨rfl, rfl, hg1.of_alloc⟩
set_option maxHeartbeats 400000 in
set_option maxRecDepth 100000 in
theorem col_no3 {b sch kd : Nat} {l l1 l2 : List UInt8} {w : World} (h : Rd w b l) (hl : l.length ≤ 140737488355328) (h1 : numD 1 l = some (sch, l1)) (h2 : numD 1 l1 = some (kd, l2)) (hk : ¬ (kd = 1 ∨ kd = 2)) :
    Calls Tryz.prog 43 #[.pointer (some ⟨b, 0, none⟩)] w fun e w' => e = dmg ∧ Gr w w' b := by
  have b1 := numD_le h1
  have hsch := num1_lt h1
  have hkd := num1_lt h2
  have C1 := hide (fun o => numd_yes (h.alloc o) hl h1 (by decide))
  have C2 := hide (fun W (hW : Rd W b l1) => numd_yes hW (by omega) h2 (by decide))
  have k1 : ((kd : Int) == 1) = false := by simp; omega
  have k2 : ((kd : Int) == 2) = false := by simp; omega
  clear h hk
  go_enter Tryz.func43, Tryz.ntmps43
  go_wp2_with (first
    | (go_at_call 53; first | (refine (unhide C2 _ hr1).mono ?_; rintro e w2 ⟨rfl, hr2, hg2⟩) | (refine (unhide C1 _).mono ?_; rintro e w1 ⟨rfl, hr1, hg1⟩))
    | (go_at_call 54; refine (ensure_no _).mono ?_; rintro e wE ⟨rfl, rfl⟩))
  exact ⟨rfl, rfl, hg1.of_alloc.trans hg2⟩
set_option maxHeartbeats 400000 in
set_option maxRecDepth 100000 in
theorem col_no4 {b sch kd : Nat} {l l1 l2 : List UInt8} {w : World} (h : Rd w b l) (hl : l.length ≤ 140737488355328) (h1 : numD 1 l = some (sch, l1)) (h2 : numD 1 l1 = some (kd, l2)) (hk : kd = 1 ∨ kd = 2) (h3 : numD 4 l2 = none) :
    Calls Tryz.prog 43 #[.pointer (some ⟨b, 0, none⟩)] w fun e w' => e = dmg ∧ Gr w w' b := by
  have b1 := numD_le h1
  have b2 := numD_le h2
  have hsch := num1_lt h1
  have C1 := hide (fun o => numd_yes (h.alloc o) hl h1 (by decide))
  have C2 := hide (fun W (hW : Rd W b l1) => numd_yes hW (by omega) h2 (by decide))
  have C3 := hide (fun W (hW : Rd W b l2) => numd_no hW (by omega) h3)
  clear h h2
  rcases hk with rfl | rfl
  all_goals
    go_enter Tryz.func43, Tryz.ntmps43
    go_wp2_with (first
      | (go_at_call 53; first | (refine (unhide C3 _ hr2).mono ?_; rintro e w3 ⟨rfl, rfl⟩) | (refine (unhide C2 _ hr1).mono ?_; rintro e w2 ⟨rfl, hr2, hg2⟩) | (refine (unhide C1 _).mono ?_; rintro e w1 ⟨rfl, hr1, hg1⟩))
      | (go_at_call 54; refine (ensure_yes _).mono ?_; rintro e wE ⟨rfl, rfl⟩))
    exact ⟨rfl, rfl, hg1.of_alloc.trans hg2⟩
set_option maxHeartbeats 400000 in
set_option maxRecDepth 100000 in
theorem col_no5 {b sch kd n : Nat} {l l1 l2 l3 : List UInt8} {w : World} (h : Rd w b l) (hl : l.length ≤ 140737488355328) (h1 : numD 1 l = some (sch, l1)) (h2 : numD 1 l1 = some (kd, l2)) (hk : kd = 1 ∨ kd = 2) (h3 : numD 4 l2 = some (n, l3)) (hn : ¬ n ≤ 4096) :
    Calls Tryz.prog 43 #[.pointer (some ⟨b, 0, none⟩)] w fun e w' => e = dmg ∧ Gr w w' b := by
  have b1 := numD_le h1
  have b2 := numD_le h2
  have hsch := num1_lt h1
  have C1 := hide (fun o => numd_yes (h.alloc o) hl h1 (by decide))
  have C2 := hide (fun W (hW : Rd W b l1) => numd_yes hW (by omega) h2 (by decide))
  have C3 := hide (fun W (hW : Rd W b l2) => numd_yes hW (by omega) h3 (by decide))
  have HNN : Hid (decide ((n : Int) ≤ 4096) = false) := decide_eq_false (by omega)
  clear h h2 hn h3
  rcases hk with rfl | rfl
  all_goals
    go_enter Tryz.func43, Tryz.ntmps43
    go_wp2_with (first
      | (go_at_call 53; first | (refine (unhide C3 _ hr2).mono ?_; rintro e w3 ⟨rfl, hr3, hg3⟩) | (refine (unhide C2 _ hr1).mono ?_; rintro e w2 ⟨rfl, hr2, hg2⟩) | (refine (unhide C1 _).mono ?_; rintro e w1 ⟨rfl, hr1, hg1⟩))
      | (go_at_call 54; first | (refine (ensure_yes _).mono ?_; rintro e wE ⟨rfl, rfl⟩) | (refine (ensureF _ (unhide HNN) _).mono ?_; rintro e wF ⟨rfl, rfl⟩)))
    exact ⟨rfl, rfl, (hg1.of_alloc.trans hg2).trans hg3⟩
set_option maxHeartbeats 400000 in
set_option maxRecDepth 100000 in
theorem col_no6 {b sch kd n : Nat} {l l1 l2 l3 : List UInt8} {w : World} (h : Rd w b l) (hl : l.length ≤ 140737488355328) (h1 : numD 1 l = some (sch, l1)) (h2 : numD 1 l1 = some (kd, l2)) (hk : kd = 1 ∨ kd = 2) (h3 : numD 4 l2 = some (n, l3)) (hn : n ≤ 4096) (h4 : nullsD n l3 = none) :
    Calls Tryz.prog 43 #[.pointer (some ⟨b, 0, none⟩)] w fun e w' => e = dmg ∧ Gr w w' b := by
  have b1 := numD_le h1
  have b2 := numD_le h2
  have b3 := numD_le h3
  have hsch := num1_lt h1
  have C1 := hide (fun o => numd_yes (h.alloc o) hl h1 (by decide))
  have C2 := hide (fun W (hW : Rd W b l1) => numd_yes hW (by omega) h2 (by decide))
  have C3 := hide (fun W (hW : Rd W b l2) => numd_yes hW (by omega) h3 (by decide))
  have C4 := hide (nulls_n (b := b) hn (by omega) h4)
  have hni : (n : Int) ≤ 4096 := by omega
  clear h h2 h3 h4
  rcases hk with rfl | rfl
  all_goals
    go_enter Tryz.func43, Tryz.ntmps43
    go_wp2_with (first
      | (go_at_call 53; first | (refine (unhide C3 _ hr2).mono ?_; rintro e w3 ⟨rfl, hr3, hg3⟩) | (refine (unhide C2 _ hr1).mono ?_; rintro e w2 ⟨rfl, hr2, hg2⟩) | (refine (unhide C1 _).mono ?_; rintro e w1 ⟨rfl, hr1, hg1⟩))
      | (go_at_call 54; refine (ensure_yes _).mono ?_; rintro e wE ⟨rfl, rfl⟩)
      | (go_at_call 55; refine (unhide C4 _ hr3).mono ?_; rintro e w4 ⟨rfl, hg4⟩))
    exact ⟨rfl, rfl, ((hg1.of_alloc.trans hg2).trans hg3).trans hg4⟩
set_option maxHeartbeats 400000 in
set_option maxRecDepth 100000 in
theorem col_no7 {b sch kd n : Nat} {l l1 l2 l3 l4 : List UInt8} {nl : List Bool} {w : World} (h : Rd w b l) (hl : l.length ≤ 140737488355328) (h1 : numD 1 l = some (sch, l1)) (h2 : numD 1 l1 = some (kd, l2)) (hk : kd = 1 ∨ kd = 2) (h3 : numD 4 l2 = some (n, l3)) (hn : n ≤ 4096) (h4 : nullsD n l3 = some (nl, l4)) (h5 : valuesD sch (kd : Int) (nl.count false) l4 = none) :
    Calls Tryz.prog 43 #[.pointer (some ⟨b, 0, none⟩)] w fun e w' => e = dmg ∧ Gr w w' b := by
  have b1 := numD_le h1
  have b2 := numD_le h2
  have b3 := numD_le h3
  obtain ⟨hnl, b4⟩ := nullsD_len h4
  have hct := count_bool nl
  have hsch := num1_lt h1
  have C1 := hide (fun o => numd_yes (h.alloc o) hl h1 (by decide))
  have C2 := hide (fun W (hW : Rd W b l1) => numd_yes hW (by omega) h2 (by decide))
  have C3 := hide (fun W (hW : Rd W b l2) => numd_yes hW (by omega) h3 (by decide))
  have C4 := hide (nulls_y (b := b) hn (by omega) h4)
  have hki : ((kd : Int)) = 1 ∨ (kd : Int) = 2 := by omega
  have hcf : nl.count false ≤ 4096 := by omega
  have C5 := hide (fun W (hW : Rd W b l4) => values_no hcf hki hW (by omega) h5)
  have hni : (n : Int) ≤ 4096 := by omega
  obtain ⟨cT, hcT⟩ : ∃ cT, cT = nl.count true := ⟨_, rfl⟩
  obtain ⟨cF, hcF⟩ : ∃ cF, cF = nl.count false := ⟨_, rfl⟩
  rw [← hcT] at C4
  rw [← hcF] at C5
  have e1 : (n : Int) - (cT : Int) = (cF : Int) := by omega
  have hcTn : cT ≤ n := by omega
  clear h h2 h3 h4 h5 hct hcT hcF hnl hcf
  rcases hk with rfl | rfl
  all_goals
    go_enter Tryz.func43, Tryz.ntmps43
    go_wp2_with (first
      | (go_at_call 53; first | (refine (unhide C3 _ hr2).mono ?_; rintro e w3 ⟨rfl, hr3, hg3⟩) | (refine (unhide C2 _ hr1).mono ?_; rintro e w2 ⟨rfl, hr2, hg2⟩) | (refine (unhide C1 _).mono ?_; rintro e w1 ⟨rfl, hr1, hg1⟩))
      | (go_at_call 54; refine (ensure_yes _).mono ?_; rintro e wE ⟨rfl, rfl⟩)
      | (go_at_call 55; refine (unhide C4 _ hr3).mono ?_; rintro e w4 ⟨g, rfl, hrow4, hgl4, hr4, hg4⟩)
      | (go_at_call 56; refine (unhide C5 _ hr4).mono ?_; rintro e w5 ⟨rfl, hg5⟩))
    exact ⟨rfl, rfl, (((hg1.of_alloc.trans hg2).trans hg3).trans hg4).trans hg5⟩
set_option maxHeartbeats 400000 in
set_option maxRecDepth 100000 in
theorem col_no8 {b sch kd n : Nat} {l l1 l2 l3 l4 r : List UInt8} {nl : List Bool} {vs : List Val} {w : World} (h : Rd w b l) (hl : l.length ≤ 140737488355328) (h1 : numD 1 l = some (sch, l1)) (h2 : numD 1 l1 = some (kd, l2)) (hk : kd = 1 ∨ kd = 2) (h3 : numD 4 l2 = some (n, l3)) (hn : n ≤ 4096) (h4 : nullsD n l3 = some (nl, l4)) (h5 : valuesD sch (kd : Int) (nl.count false) l4 = some (vs, r)) (hr : r ≠ []) :
    Calls Tryz.prog 43 #[.pointer (some ⟨b, 0, none⟩)] w fun e w' => e = dmg ∧ Gr w w' b := by
  have b1 := numD_le h1
  have b2 := numD_le h2
  have b3 := numD_le h3
  obtain ⟨hnl, b4⟩ := nullsD_len h4
  have hct := count_bool nl
  have hsch := num1_lt h1
  have C1 := hide (fun o => numd_yes (h.alloc o) hl h1 (by decide))
  have C2 := hide (fun W (hW : Rd W b l1) => numd_yes hW (by omega) h2 (by decide))
  have C3 := hide (fun W (hW : Rd W b l2) => numd_yes hW (by omega) h3 (by decide))
  have C4 := hide (nulls_y (b := b) hn (by omega) h4)
  have hki : ((kd : Int)) = 1 ∨ (kd : Int) = 2 := by omega
  have hcf : nl.count false ≤ 4096 := by omega
  have C5 := hide (fun W (hW : Rd W b l4) => values_yes hcf hki hW (by omega) h5)
  have hni : (n : Int) ≤ 4096 := by omega
  obtain ⟨cT, hcT⟩ : ∃ cT, cT = nl.count true := ⟨_, rfl⟩
  obtain ⟨cF, hcF⟩ : ∃ cF, cF = nl.count false := ⟨_, rfl⟩
  rw [← hcT] at C4
  rw [← hcF] at C5
  have e1 : (n : Int) - (cT : Int) = (cF : Int) := by omega
  have hcTn : cT ≤ n := by omega
  have HRE : Hid ((bs r).toList.isEmpty = false) := by
    show _ = _
    cases hq : (bs r).toList.isEmpty with
    | false => rfl
    | true =>
      have := congrArg List.length (List.isEmpty_iff.1 hq)
      cases r with
      | nil => exact absurd rfl hr
      | cons a r => simp [bs, ByteArray.toList_eq] at this
  clear h h2 h3 h4 h5 hct hcT hcF hnl hcf
  rcases hk with rfl | rfl
  all_goals
    go_enter Tryz.func43, Tryz.ntmps43
    go_wp2_with (first
      | (go_at_call 53; first | (refine (unhide C3 _ hr2).mono ?_; rintro e w3 ⟨rfl, hr3, hg3⟩) | (refine (unhide C2 _ hr1).mono ?_; rintro e w2 ⟨rfl, hr2, hg2⟩) | (refine (unhide C1 _).mono ?_; rintro e w1 ⟨rfl, hr1, hg1⟩))
      | (go_at_call 54; first | (refine (ensure_yes _).mono ?_; rintro e wE ⟨rfl, rfl⟩) | (refine (ensureF _ (unhide HRE) _).mono ?_; rintro e wF ⟨rfl, rfl⟩))
      | (go_at_call 55; refine (unhide C4 _ hr3).mono ?_; rintro e w4 ⟨g, rfl, hrow4, hgl4, hr4, hg4⟩)
      | (go_at_call 56; refine (unhide C5 _ hr4).mono ?_; rintro e w5 ⟨v5, rfl, ho5, hr5, hg5⟩; obtain ⟨a5, c5, rfl, _, _, hrw5⟩ := ownV_slice ho5; have c9 : w5.cell? ⟨b, 0, none⟩ = some (.string (bs r)) := hr5.cell))
    exact ⟨rfl, rfl, (((hg1.of_alloc.trans hg2).trans hg3).trans hg4).trans hg5⟩
theorem column_no {b : Nat} {l : List UInt8} {w : World} (h : Rd w b l) (hl : l.length ≤ 140737488355328) (hd : columnD l = none) :
    Calls Tryz.prog 43 #[.pointer (some ⟨b, 0, none⟩)] w fun e w' => e = dmg ∧ Gr w w' b := by
  unfold columnD at hd
  cases h1 : numD 1 l with
  | none => exact col_no1 h hl h1
  | some a =>
    obtain ⟨sch, l1⟩ := a
    rw [h1, Option.bind_some] at hd
    cases h2 : numD 1 l1 with
    | none => exact col_no2 h hl h1 h2
    | some q =>
      obtain ⟨kd, l2⟩ := q
      simp only [h2, Option.bind_some] at hd
      by_cases hk : kd = 1 ∨ kd = 2
      · rw [if_pos hk] at hd
        cases h3 : numD 4 l2 with
        | none => exact col_no4 h hl h1 h2 hk h3
        | some q =>
          obtain ⟨n, l3⟩ := q
          simp only [h3, Option.bind_some] at hd
          by_cases hn : n ≤ 4096
          · rw [if_pos hn] at hd
            cases h4 : nullsD n l3 with
            | none => exact col_no6 h hl h1 h2 hk h3 hn h4
            | some q =>
              obtain ⟨nl, l4⟩ := q
              simp only [h4, Option.bind_some] at hd
              cases h5 : valuesD sch (kd : Int) (nl.count false) l4 with
              | none => exact col_no7 h hl h1 h2 hk h3 hn h4 h5
              | some q =>
                obtain ⟨vs, r⟩ := q
                simp only [h5, Option.bind_some] at hd
                by_cases hr : r = []
                · rw [if_pos hr] at hd; cases hd
                · exact col_no8 h hl h1 h2 hk h3 hn h4 h5 hr
          · exact col_no5 h hl h1 h2 hk h3 hn
      · exact col_no3 h hl h1 h2 hk
end Go.Proofs.YtjnggnhgambmkaaGreat
