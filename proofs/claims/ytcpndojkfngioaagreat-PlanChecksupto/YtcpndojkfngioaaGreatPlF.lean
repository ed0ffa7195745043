import Derived.Test.YtcpndojkfngioaaGreatPlE
set_option linter.unusedSimpArgs false
set_option linter.unusedVariables false
namespace Go.Proofs.YtcpndojkfngioaaGreat
open Go.RowKit Go.Sort

/-- A byte of a text. -/
def byI (s : ByteArray) (q : Nat) : Int := ((s.data.toList.getD q 0).toNat : Int)
theorem idxS (s : ByteArray) (q : Nat) (h : q < s.size) (W : World) : (Instr.index 9 (.string s) (.int .i64 (q : Int))).run Tryz.prog W = .ok (.int .u8 (byI s q)) W := by
  rw [run_index_string W 9 s .i64 q Tryz.underlying9, dif_pos ⟨by omega, by omega⟩]
  have h' : q < s.data.size := h
  have : byI s q = ((s[((q : Int)).toNat]'(by simpa using h)).toNat : Int) := by
    unfold byI
    have h2 : q < s.data.toList.length := by simpa using h'
    rw [List.getD_eq_getElem?_getD, List.getElem?_eq_getElem h2, Option.getD_some, Array.getElem_toList]
    rfl
  rw [this]
def letB (y : Int) : Bool := decide (97 ≤ y) && decide (y ≤ 122)
def digB (y : Int) : Bool := (decide (48 ≤ y) && decide (y ≤ 57)) || y == 95
def namB (y : Int) : Bool := letB y || digB y
/-- Is it a name? -/
def nameB (s : ByteArray) : Bool := decide (1 ≤ s.size) && decide (s.size ≤ 40) && letB (byI s 0) && (List.range s.size).all (fun i => namB (byI s i))
set_option maxRecDepth 100000 in
/-- isLetter (107). -/
theorem letter_any (y : Int) (w : World) : Calls Tryz.prog 107 #[.int .u8 y] w fun r w' => r = .returned (.bool (letB y)) ∧ Below w.heap.size w w' := by
  unfold letB
  by_cases h1 : 97 ≤ y
  · by_cases h2 : y ≤ 122
    · go_enter Tryz.func107, Tryz.ntmps107
      go_wp2
      go_ret
      exact ⟨by simp [h1, h2], Below.refl _ _⟩
    · go_enter Tryz.func107, Tryz.ntmps107
      go_wp2
      go_ret
      exact ⟨by simp [h1, h2], Below.refl _ _⟩
  · go_enter Tryz.func107, Tryz.ntmps107
    go_wp2
    go_ret
    exact ⟨by simp [h1]; intros; omega, Below.refl _ _⟩
set_option maxRecDepth 100000 in
/-- isNameByte (108). -/
theorem nameByte_any (y : Int) (w : World) : Calls Tryz.prog 108 #[.int .u8 y] w fun r w' => r = .returned (.bool (namB y)) ∧ Below w.heap.size w w' := by
  have HL := hide (letter_any y)
  unfold namB
  cases hl : letB y
  · rw [hl] at HL
    have HD : Hid (digB y = ((decide (48 ≤ y) && decide (y ≤ 57)) || y == 95)) := rfl
    generalize digB y = dd at *
    rw [Bool.false_or]
    clear hl
    by_cases h1 : 48 ≤ y
    · by_cases h2 : y ≤ 57
      · go_enter Tryz.func108, Tryz.ntmps108
        go_wp2_with (go_at_call 107; refine (unhide HL _).mono ?_; rintro r w1 ⟨rfl, hb1⟩)
        go_ret
        exact ⟨by rw [unhide HD]; simp [h1, h2], hb1⟩
      · by_cases h3 : y = 95
        · subst h3
          go_enter Tryz.func108, Tryz.ntmps108
          go_wp2_with (go_at_call 107; refine (unhide HL _).mono ?_; rintro r w1 ⟨rfl, hb1⟩)
          go_ret
          exact ⟨by rw [unhide HD]; rfl, hb1⟩
        · go_enter Tryz.func108, Tryz.ntmps108
          go_wp2_with (go_at_call 107; refine (unhide HL _).mono ?_; rintro r w1 ⟨rfl, hb1⟩)
          go_ret
          exact ⟨by rw [unhide HD]; simp [h1, h2, h3], hb1⟩
    · have h3 : ¬ y = 95 := by omega
      go_enter Tryz.func108, Tryz.ntmps108
      go_wp2_with (go_at_call 107; refine (unhide HL _).mono ?_; rintro r w1 ⟨rfl, hb1⟩)
      go_ret
      exact ⟨by rw [unhide HD]; simp [h1, h3]; intros; omega, hb1⟩
  · rw [hl] at HL
    clear hl
    go_enter Tryz.func108, Tryz.ntmps108
    go_wp2_with (go_at_call 107; refine (unhide HL _).mono ?_; rintro r w1 ⟨rfl, hb1⟩)
    go_ret
    exact ⟨rfl, hb1⟩
theorem name_all {s : ByteArray} {k : Nat} (h : ∀ i, i < k → namB (byI s i) = true) (hk : k = s.size) : (List.range s.size).all (fun i => namB (byI s i)) = true := by
  rw [List.all_eq_true]
  intro i hi
  exact h i (by rw [hk]; exact List.mem_range.1 hi)
theorem name_bad {s : ByteArray} {k : Nat} (hk : k < s.size) (h : namB (byI s k) = false) : (List.range s.size).all (fun i => namB (byI s i)) = false := by
  rw [List.all_eq_false]
  exact ⟨k, List.mem_range.2 hk, by simp [h]⟩
set_option maxHeartbeats 1000000 in
set_option maxRecDepth 100000 in
/-- IsName (80). -/
theorem isname_any (s : ByteArray) (hs : s.size ≤ 140737488355328) (w : World) : Calls Tryz.prog 80 #[.string s] w fun r w' => r = .returned (.bool (nameB s)) ∧ Below w.heap.size w w' := by
  obtain ⟨R, hR⟩ : ∃ R, R = nameB s := ⟨_, rfl⟩
  rw [← hR]
  unfold nameB at hR
  have HR := hide hR
  clear hR
  by_cases h1 : s.size < 1
  · have HZ : Hid (R = false) := by rw [unhide HR]; show _ = _; simp; omega
    have i1 : (s.size : Int) < 1 := by omega
    go_enter Tryz.func80, Tryz.ntmps80
    go_wp2
    go_ret
    exact ⟨by rw [unhide HZ]; rfl, Below.refl _ _⟩
  by_cases h2 : 40 < s.size
  · have HZ : Hid (R = false) := by rw [unhide HR]; show _ = _; simp; omega
    have i1 : ¬ (s.size : Int) < 1 := by omega
    have i2 : (40 : Int) < (s.size : Int) := by omega
    go_enter Tryz.func80, Tryz.ntmps80
    go_wp2
    go_ret
    exact ⟨by rw [unhide HZ]; rfl, Below.refl _ _⟩
  have i1 : ¬ (s.size : Int) < 1 := by omega
  have i2 : ¬ (40 : Int) < (s.size : Int) := by omega
  have e1 : decide (1 ≤ s.size) = true := by simp; omega
  have e2 : decide (s.size ≤ 40) = true := by simp; omega
  rw [e1, e2, Bool.true_and, Bool.true_and] at HR
  clear e1 e2
  have hx0 := idxS s 0 (by omega)
  have HL := hide (letter_any (byI s 0))
  cases hl : letB (byI s 0)
  · rw [hl] at HL HR
    have HZ : Hid (R = false) := unhide HR
    rw [Int.natCast_zero] at hx0
    generalize byI s 0 = y at *
    clear hl HR
    go_enter Tryz.func80, Tryz.ntmps80
    go_wp2_with (go_at_call 107; refine (unhide HL _).mono ?_; rintro r w1 ⟨rfl, hb1⟩)
    go_ret
    exact ⟨by rw [unhide HZ]; rfl, hb1⟩
  · rw [hl] at HL
    rw [hl, Bool.true_and] at HR
    rw [Int.natCast_zero] at hx0
    generalize byI s 0 = y at *
    clear hl
    go_enter Tryz.func80, Tryz.ntmps80
    go_wp2_with (go_at_call 107; refine (unhide HL _).mono ?_; rintro r w1 ⟨rfl, hb1⟩)
    have HB1 := hide hb1
    clear hb1 hx0 HL
    go_loopw [20] (fun i wr => ∃ k : Nat, k ≤ s.size ∧ i = .int .i64 (k : Int) ∧ Hid (∀ i, i < k → namB (byI s i) = true) ∧ Hid (Below w1.heap.size w1 wr)) (fun i _ => s.size - (intOf i).toNat)
    case atStart => exact ⟨0, Nat.zero_le _, rfl, fun i hi => absurd hi (by omega), Below.refl _ _⟩
    case round =>
      obtain ⟨k, hk, rfl, HN, HB⟩ := hrel
      by_cases hlt : k < s.size
      · have h9 : (k : Int) < (s.size : Int) := by omega
        have hxk := idxS s k hlt
        have HC := hide (nameByte_any (byI s k))
        cases hn : namB (byI s k)
        · have HZ : Hid (R = false) := by rw [unhide HR]; exact name_bad hlt hn
          rw [hn] at HC
          generalize byI s k = z at *
          clear hn HN
          go_wp2_with (go_at_call 108; refine (unhide HC _).mono ?_; rintro r w2 ⟨rfl, hb2⟩)
          go_ret
          exact ⟨by rw [unhide HZ]; rfl, below_step (below_step (unhide HB1) (unhide HB)) hb2⟩
        · have HN2 : Hid (∀ i, i < k + 1 → namB (byI s i) = true) := fun i hi => by
            rcases Nat.lt_or_eq_of_le (Nat.le_of_lt_succ hi) with h | rfl
            · exact unhide HN i h
            · exact hn
          rw [hn] at HC
          generalize hz : byI s k = z at hxk HC
          clear hn HN hz
          go_wp2_with (go_at_call 108; refine (unhide HC _).mono ?_; rintro r w2 ⟨rfl, hb2⟩)
          exact ⟨⟨k + 1, by omega, by go_num, unhide HN2, below_step (unhide HB) hb2⟩, by simp [intOf]; omega⟩
      · have h9 : ¬ (k : Int) < (s.size : Int) := by omega
        have HZ : Hid (R = true) := by rw [unhide HR]; exact name_all (unhide HN) (by omega)
        clear HN
        go_wp2
        go_ret
        exact ⟨by rw [unhide HZ]; rfl, below_step (unhide HB1) (unhide HB)⟩
end Go.Proofs.YtcpndojkfngioaaGreat
