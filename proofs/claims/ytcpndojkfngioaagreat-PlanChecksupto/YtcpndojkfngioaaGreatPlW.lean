import Derived.Test.YtcpndojkfngioaaGreatPlV
import Derived.Test.YtcpndojkfngioaaGreatTbH
import Derived.Test.YtcpndojkfngioaaGreatKnE
set_option linter.unusedSimpArgs false
set_option linter.unusedVariables false
namespace Go.Proofs.YtcpndojkfngioaaGreat
open Go.RowKit Go.Sort

set_option maxHeartbeats 1000000 in
set_option maxRecDepth 100000 in
/-- tallyref.Built (10). -/
theorem rBuilt_any (p : Pl) (hf : p.fin) (m : Pm) (w : World) (ha : PlM w p m) : Calls Tryz.prog 10 #[p.val m] w fun r w' => r = .returned (.int .i64 (builtR p)) ∧ Below w.heap.size w w' := by
  have hb0 := below_alloc (Below.refl _ w) (p.box m)
  have HE := hide (Elv.new w p m)
  have HL0 := hide (Elv.new w p m).load
  have HB := hide hb0
  have HC := hide (rcount_all p.size p (Nat.le_refl _) hf 0 1 m _ (by omega) (by omega) (by omega) (by omega) (ha.later hb0))
  have HI := hide (fun (W : World) (hW : Below w.heap.size w W) => rbltP_any p hf m W (ha.later hW))
  rw [show (400 : Int) - 0 = 400 from rfl, show (41 : Int) - 1 = 40 from rfl] at HC
  unfold builtR
  unfold Pl.box at HE HB HL0 HC
  rw [Pl.val_open] at HC HI HL0 ⊢
  clear hb0 ha hf
  cases hc : cntP p 400 40 with
  | none =>
    rw [hc] at HC
    clear hc HI HE
    go_enter Tryz.func10, Tryz.ntmps10
    go_wp2_with (first
      | (refine wpList_load_w ?_ 28 (.tmp 1) rfl _ (by simp [Act.eval]) _ (unhide HL0) ?_; · simp [Region.wanted, yielded])
      | (go_at_call 22; refine (unhide HC).mono ?_; rintro r w1 ⟨n1, rfl, _, hb1⟩))
    go_ret
    exact ⟨rfl, below_step (unhide HB) hb1⟩
  | some k =>
    rw [hc] at HC
    clear hc
    cases hi : bltP p
    · rw [hi] at HI
      clear hi
      go_enter Tryz.func10, Tryz.ntmps10
      go_wp2_with (first
        | (refine wpList_load_w ?_ 28 (.tmp 1) rfl _ (by simp [Act.eval]) _ (unhide HL1) ?_; · simp [Region.wanted, yielded])
        | (refine wpList_load_w ?_ 28 (.tmp 1) rfl _ (by simp [Act.eval]) _ (unhide HL0) ?_; · simp [Region.wanted, yielded])
        | (go_at_call 22; refine (unhide HC).mono ?_; rintro r w1 ⟨n1, rfl, _, hb1⟩; have HL1 := hide ((unhide HE).later hb1).load; rw [Pl.val_open] at HL1)
        | (go_at_call 23; refine (unhide HI _ (below_step (unhide HB) hb1)).mono ?_; rintro r w2 ⟨rfl, hb2⟩))
      go_ret
      exact ⟨rfl, below_step (below_step (unhide HB) hb1) hb2⟩
    · rw [hi] at HI
      clear hi
      go_enter Tryz.func10, Tryz.ntmps10
      go_wp2_with (first
        | (refine wpList_load_w ?_ 28 (.tmp 1) rfl _ (by simp [Act.eval]) _ (unhide HL1) ?_; · simp [Region.wanted, yielded])
        | (refine wpList_load_w ?_ 28 (.tmp 1) rfl _ (by simp [Act.eval]) _ (unhide HL0) ?_; · simp [Region.wanted, yielded])
        | (go_at_call 22; refine (unhide HC).mono ?_; rintro r w1 ⟨n1, rfl, _, hb1⟩; have HL1 := hide ((unhide HE).later hb1).load; rw [Pl.val_open] at HL1)
        | (go_at_call 23; refine (unhide HI _ (below_step (unhide HB) hb1)).mono ?_; rintro r w2 ⟨rfl, hb2⟩))
      go_ret
      exact ⟨rfl, below_step (below_step (unhide HB) hb1) hb2⟩
end Go.Proofs.YtcpndojkfngioaaGreat
set_option linter.unusedSimpArgs false
set_option linter.unusedVariables false
namespace Go.Proofs.YtcpndojkfngioaaGreat
open Go.RowKit Go.Sort

theorem eq_of_zip {xs ys : List Int} (hl : xs.length = ys.length) (h : ∀ (i : Nat) x y, xs[i]? = some x → ys[i]? = some y → x = y) : xs = ys := by
  apply List.ext_getElem hl
  intro i h1 h2
  exact h i _ _ (List.getElem?_eq_getElem h1) (List.getElem?_eq_getElem h2)
set_option maxHeartbeats 2000000 in
set_option maxRecDepth 100000 in
/-- tallyref.sameKinds (32). -/
theorem sameKinds_any (xs ys : List Int) (a : Option Addr) (c : Nat) (a2 : Option Addr) (c2 : Nat) (w : World) (hl : xs.length ≤ 140737488355328) (hl2 : ys.length ≤ 140737488355328) (hx : IntsAt w a xs) (hy : IntsAt w a2 ys) :
    Calls Tryz.prog 32 #[.slice a xs.length c, .slice a2 ys.length c2] w fun e w' => e = .returned (.bool (decide (xs = ys))) ∧ Below w.heap.size w w' := by
  have HX := hide hx
  have HY := hide hy
  obtain ⟨R, hR⟩ : ∃ R, R = decide (xs = ys) := ⟨_, rfl⟩
  rw [← hR]
  clear hx hy
  by_cases hlen : xs.length = ys.length
  case neg =>
    obtain rfl : R = false := by rw [hR]; exact decide_eq_false (fun e => hlen (by rw [e]))
    have e0 : ((xs.length : Int) != (ys.length : Int)) = true := by simp; omega
    clear hR hlen
    go_enter Tryz.func32, Tryz.ntmps32
    go_wp2
    go_ret
    exact ⟨rfl, Below.refl _ _⟩
  have e0 : ((xs.length : Int) != (ys.length : Int)) = false := by simp; omega
  have HR := hide hR
  have HLEN := hide hlen
  clear hR hlen
  go_enter Tryz.func32, Tryz.ntmps32
  go_wp2_with fail
  go_loopw [13] (fun i wr => ∃ k : Nat, k ≤ xs.length ∧ i = .int .i64 (k : Int) ∧ Hid (∀ (i : Nat) x y, i < k → xs[i]? = some x → ys[i]? = some y → x = y) ∧ Hid (Below w.heap.size w wr)) (fun i _ => xs.length - (intOf i).toNat)
  case atStart => exact ⟨0, Nat.zero_le _, rfl, (fun i x y hi => absurd hi (by omega)), Below.refl _ _⟩
  case round =>
    obtain ⟨k, hk, rfl, HM, HB⟩ := hrel
    by_cases hlt : k < xs.length
    · have h9 : (k : Int) < (xs.length : Int) := by omega
      have hky : k < ys.length := by have := unhide HLEN; omega
      obtain ⟨x, hx⟩ : ∃ x, xs[k]? = some x := ⟨_, List.getElem?_eq_getElem hlt⟩
      obtain ⟨y, hy⟩ : ∃ y, ys[k]? = some y := ⟨_, List.getElem?_eq_getElem hky⟩
      obtain ⟨b, off, ea, d0⟩ := ((unhide HX).later (unhide HB)).get hx
      obtain ⟨b2, off2, ea2, d1⟩ := ((unhide HY).later (unhide HB)).get hy
      have q0 := cell_regrown d0
      have q1 := cell_regrown d1
      rw [ea, ea2]
      clear d0 d1 ea ea2
      by_cases he : x = y
      · have HM2 : Hid (∀ (i : Nat) x y, i < k + 1 → xs[i]? = some x → ys[i]? = some y → x = y) := by
          intro i x' y' hi h1 h2
          rcases Nat.lt_or_eq_of_le (Nat.le_of_lt_succ hi) with h | rfl
          · exact unhide HM i x' y' h h1 h2
          · rw [hx] at h1; rw [hy] at h2; injection h1 with h1; injection h2 with h2; rw [← h1, ← h2]; exact he
        have b1 : (x != y) = false := by rw [he]; simp
        clear HM hx hy he
        go_upto_region 6 with fail
        refine wp_region_quiet_below (by kernel_rfl) (by kernel_rfl) ?_
        repeat (go_big_quiet_step (fail))
        refine wpQuiet_nil ?_
        intro w2 hw2
        have hB2 : Below wr.heap.size wr w2 := by obtain ⟨p, rfl⟩ := hw2; exact below_regrown _ _ _
        clear hw2
        go_wp2
        exact ⟨⟨k + 1, by omega, by go_num, unhide HM2, below_step (unhide HB) hB2⟩, by simp [intOf]; omega⟩
      · have b1 : (x != y) = true := by simpa using he
        have HZ : Hid (R = false) := by
          show _ = _
          rw [unhide HR]
          refine decide_eq_false fun e => he ?_
          rw [e, hy] at hx
          injection hx with hx
          exact hx.symm
        clear HM hx hy he
        go_upto_region 6 with fail
        refine wp_region_quiet_below (by kernel_rfl) (by kernel_rfl) ?_
        repeat (go_big_quiet_step (fail))
        refine wpQuiet_nil ?_
        intro w2 hw2
        have hB2 : Below wr.heap.size wr w2 := by obtain ⟨p, rfl⟩ := hw2; exact below_regrown _ _ _
        clear hw2
        go_wp2
        go_ret
        exact ⟨by rw [unhide HZ]; rfl, below_step (unhide HB) hB2⟩
    · have h9 : ¬ (k : Int) < (xs.length : Int) := by omega
      have HZ : Hid (R = true) := by
        show _ = _
        rw [unhide HR]
        exact decide_eq_true (eq_of_zip (unhide HLEN) fun i x y h1 h2 => unhide HM i x y (by have := (List.getElem?_eq_some_iff.1 h1).1; omega) h1 h2)
      clear HM
      go_wp2
      go_ret
      exact ⟨by rw [unhide HZ]; rfl, unhide HB⟩
set_option maxHeartbeats 2000000 in
set_option maxRecDepth 100000 in
/-- slices.Equal (95). -/
theorem equal_any (xs ys : List Int) (a : Option Addr) (c : Nat) (a2 : Option Addr) (c2 : Nat) (w : World) (hl : xs.length ≤ 140737488355328) (hl2 : ys.length ≤ 140737488355328) (hx : IntsAt w a xs) (hy : IntsAt w a2 ys) :
    Calls Tryz.prog 95 #[.slice a xs.length c, .slice a2 ys.length c2] w fun e w' => e = .returned (.bool (decide (xs = ys))) ∧ Below w.heap.size w w' := by
  have HX := hide hx
  have HY := hide hy
  obtain ⟨R, hR⟩ : ∃ R, R = decide (xs = ys) := ⟨_, rfl⟩
  rw [← hR]
  clear hx hy
  by_cases hlen : xs.length = ys.length
  case neg =>
    obtain rfl : R = false := by rw [hR]; exact decide_eq_false (fun e => hlen (by rw [e]))
    have e0 : ((xs.length : Int) != (ys.length : Int)) = true := by simp; omega
    clear hR hlen
    go_enter Tryz.func95, Tryz.ntmps95
    go_wp2
    go_ret
    exact ⟨rfl, Below.refl _ _⟩
  have e0 : ((xs.length : Int) != (ys.length : Int)) = false := by simp; omega
  have HR := hide hR
  have HLEN := hide hlen
  clear hR hlen
  go_enter Tryz.func95, Tryz.ntmps95
  go_wp2_with fail
  go_loopw [13] (fun i wr => ∃ k : Nat, k ≤ xs.length ∧ i = .int .i64 (k : Int) ∧ Hid (∀ (i : Nat) x y, i < k → xs[i]? = some x → ys[i]? = some y → x = y) ∧ Hid (Below w.heap.size w wr)) (fun i _ => xs.length - (intOf i).toNat)
  case atStart => exact ⟨0, Nat.zero_le _, rfl, (fun i x y hi => absurd hi (by omega)), Below.refl _ _⟩
  case round =>
    obtain ⟨k, hk, rfl, HM, HB⟩ := hrel
    by_cases hlt : k < xs.length
    · have h9 : (k : Int) < (xs.length : Int) := by omega
      have hky : k < ys.length := by have := unhide HLEN; omega
      obtain ⟨x, hx⟩ : ∃ x, xs[k]? = some x := ⟨_, List.getElem?_eq_getElem hlt⟩
      obtain ⟨y, hy⟩ : ∃ y, ys[k]? = some y := ⟨_, List.getElem?_eq_getElem hky⟩
      obtain ⟨b, off, ea, d0⟩ := ((unhide HX).later (unhide HB)).get hx
      obtain ⟨b2, off2, ea2, d1⟩ := ((unhide HY).later (unhide HB)).get hy
      have q0 := cell_regrown d0
      have q1 := cell_regrown d1
      rw [ea, ea2]
      clear d0 d1 ea ea2
      by_cases he : x = y
      · have HM2 : Hid (∀ (i : Nat) x y, i < k + 1 → xs[i]? = some x → ys[i]? = some y → x = y) := by
          intro i x' y' hi h1 h2
          rcases Nat.lt_or_eq_of_le (Nat.le_of_lt_succ hi) with h | rfl
          · exact unhide HM i x' y' h h1 h2
          · rw [hx] at h1; rw [hy] at h2; injection h1 with h1; injection h2 with h2; rw [← h1, ← h2]; exact he
        have b1 : (x != y) = false := by rw [he]; simp
        clear HM hx hy he
        go_upto_region 6 with fail
        refine wp_region_quiet_below (by kernel_rfl) (by kernel_rfl) ?_
        repeat (go_big_quiet_step (fail))
        refine wpQuiet_nil ?_
        intro w2 hw2
        have hB2 : Below wr.heap.size wr w2 := by obtain ⟨p, rfl⟩ := hw2; exact below_regrown _ _ _
        clear hw2
        go_wp2
        exact ⟨⟨k + 1, by omega, by go_num, unhide HM2, below_step (unhide HB) hB2⟩, by simp [intOf]; omega⟩
      · have b1 : (x != y) = true := by simpa using he
        have HZ : Hid (R = false) := by
          show _ = _
          rw [unhide HR]
          refine decide_eq_false fun e => he ?_
          rw [e, hy] at hx
          injection hx with hx
          exact hx.symm
        clear HM hx hy he
        go_upto_region 6 with fail
        refine wp_region_quiet_below (by kernel_rfl) (by kernel_rfl) ?_
        repeat (go_big_quiet_step (fail))
        refine wpQuiet_nil ?_
        intro w2 hw2
        have hB2 : Below wr.heap.size wr w2 := by obtain ⟨p, rfl⟩ := hw2; exact below_regrown _ _ _
        clear hw2
        go_wp2
        go_ret
        exact ⟨by rw [unhide HZ]; rfl, below_step (unhide HB) hB2⟩
    · have h9 : ¬ (k : Int) < (xs.length : Int) := by omega
      have HZ : Hid (R = true) := by
        show _ = _
        rw [unhide HR]
        exact decide_eq_true (eq_of_zip (unhide HLEN) fun i x y h1 h2 => unhide HM i x y (by have := (List.getElem?_eq_some_iff.1 h1).1; omega) h1 h2)
      clear HM
      go_wp2
      go_ret
      exact ⟨by rw [unhide HZ]; rfl, unhide HB⟩
set_option maxHeartbeats 2000000 in
set_option maxRecDepth 100000 in
/-- SameNums (11). -/
theorem sameNums_any (xs ys : List Int) (a : Option Addr) (c : Nat) (a2 : Option Addr) (c2 : Nat) (w : World) (hl : xs.length ≤ 140737488355328) (hl2 : ys.length ≤ 140737488355328) (hx : IntsAt w a xs) (hy : IntsAt w a2 ys) :
    Calls Tryz.prog 11 #[.slice a xs.length c, .slice a2 ys.length c2] w fun e w' => e = .returned (.bool (decide (xs = ys))) ∧ Below w.heap.size w w' := by
  have HX := hide hx
  have HY := hide hy
  obtain ⟨R, hR⟩ : ∃ R, R = decide (xs = ys) := ⟨_, rfl⟩
  rw [← hR]
  clear hx hy
  by_cases hlen : xs.length = ys.length
  case neg =>
    obtain rfl : R = false := by rw [hR]; exact decide_eq_false (fun e => hlen (by rw [e]))
    have e0 : ((xs.length : Int) != (ys.length : Int)) = true := by simp; omega
    clear hR hlen
    go_enter Tryz.func11, Tryz.ntmps11
    go_wp2
    go_ret
    exact ⟨rfl, Below.refl _ _⟩
  have e0 : ((xs.length : Int) != (ys.length : Int)) = false := by simp; omega
  have HR := hide hR
  have HLEN := hide hlen
  clear hR hlen
  go_enter Tryz.func11, Tryz.ntmps11
  go_wp2_with fail
  go_loopw [13] (fun i wr => ∃ k : Nat, k ≤ xs.length ∧ i = .int .i64 (k : Int) ∧ Hid (∀ (i : Nat) x y, i < k → xs[i]? = some x → ys[i]? = some y → x = y) ∧ Hid (Below w.heap.size w wr)) (fun i _ => xs.length - (intOf i).toNat)
  case atStart => exact ⟨0, Nat.zero_le _, rfl, (fun i x y hi => absurd hi (by omega)), Below.refl _ _⟩
  case round =>
    obtain ⟨k, hk, rfl, HM, HB⟩ := hrel
    by_cases hlt : k < xs.length
    · have h9 : (k : Int) < (xs.length : Int) := by omega
      have hky : k < ys.length := by have := unhide HLEN; omega
      obtain ⟨x, hx⟩ : ∃ x, xs[k]? = some x := ⟨_, List.getElem?_eq_getElem hlt⟩
      obtain ⟨y, hy⟩ : ∃ y, ys[k]? = some y := ⟨_, List.getElem?_eq_getElem hky⟩
      obtain ⟨b, off, ea, d0⟩ := ((unhide HX).later (unhide HB)).get hx
      obtain ⟨b2, off2, ea2, d1⟩ := ((unhide HY).later (unhide HB)).get hy
      have q0 := cell_regrown d0
      have q1 := cell_regrown d1
      rw [ea, ea2]
      clear d0 d1 ea ea2
      by_cases he : x = y
      · have HM2 : Hid (∀ (i : Nat) x y, i < k + 1 → xs[i]? = some x → ys[i]? = some y → x = y) := by
          intro i x' y' hi h1 h2
          rcases Nat.lt_or_eq_of_le (Nat.le_of_lt_succ hi) with h | rfl
          · exact unhide HM i x' y' h h1 h2
          · rw [hx] at h1; rw [hy] at h2; injection h1 with h1; injection h2 with h2; rw [← h1, ← h2]; exact he
        have b1 : (x != y) = false := by rw [he]; simp
        clear HM hx hy he
        go_upto_region 6 with fail
        refine wp_region_quiet_below (by kernel_rfl) (by kernel_rfl) ?_
        repeat (go_big_quiet_step (fail))
        refine wpQuiet_nil ?_
        intro w2 hw2
        have hB2 : Below wr.heap.size wr w2 := by obtain ⟨p, rfl⟩ := hw2; exact below_regrown _ _ _
        clear hw2
        go_wp2
        exact ⟨⟨k + 1, by omega, by go_num, unhide HM2, below_step (unhide HB) hB2⟩, by simp [intOf]; omega⟩
      · have b1 : (x != y) = true := by simpa using he
        have HZ : Hid (R = false) := by
          show _ = _
          rw [unhide HR]
          refine decide_eq_false fun e => he ?_
          rw [e, hy] at hx
          injection hx with hx
          exact hx.symm
        clear HM hx hy he
        go_upto_region 6 with fail
        refine wp_region_quiet_below (by kernel_rfl) (by kernel_rfl) ?_
        repeat (go_big_quiet_step (fail))
        refine wpQuiet_nil ?_
        intro w2 hw2
        have hB2 : Below wr.heap.size wr w2 := by obtain ⟨p, rfl⟩ := hw2; exact below_regrown _ _ _
        clear hw2
        go_wp2
        go_ret
        exact ⟨by rw [unhide HZ]; rfl, below_step (unhide HB) hB2⟩
    · have h9 : ¬ (k : Int) < (xs.length : Int) := by omega
      have HZ : Hid (R = true) := by
        show _ = _
        rw [unhide HR]
        exact decide_eq_true (eq_of_zip (unhide HLEN) fun i x y h1 h2 => unhide HM i x y (by have := (List.getElem?_eq_some_iff.1 h1).1; omega) h1 h2)
      clear HM
      go_wp2
      go_ret
      exact ⟨by rw [unhide HZ]; rfl, unhide HB⟩
set_option maxHeartbeats 1000000 in
set_option maxRecDepth 100000 in
/-- tallyref.beyond (37). -/
theorem beyond_any (xs : List Int) (n : Int) (a : Option Addr) (c : Nat) (w : World) (hl : xs.length ≤ 140737488355328) (ha : IntsAt w a xs) :
    Calls Tryz.prog 37 #[.slice a xs.length c, .int .i64 n] w fun e w' => e = .returned (.bool (xs.any fun x => decide (n ≤ x))) ∧ Below w.heap.size w w' := by
  have HA := hide ha
  obtain ⟨R, hR⟩ : ∃ R, R = xs.any fun x => decide (n ≤ x) := ⟨_, rfl⟩
  rw [← hR]
  have HR := hide hR
  clear ha hR
  go_enter Tryz.func37, Tryz.ntmps37
  go_wp2_with fail
  go_loopw [9] (fun i wr => ∃ k : Nat, k ≤ xs.length ∧ i = .int .i64 (k : Int) ∧ Hid ((xs.take k).any (fun x => decide (n ≤ x)) = false) ∧ wr = w) (fun i _ => xs.length - (intOf i).toNat)
  case atStart => exact ⟨0, Nat.zero_le _, rfl, by show _ = _; rfl, rfl⟩
  case round =>
    obtain ⟨k, hk, rfl, HM, rfl⟩ := hrel
    by_cases hlt : k < xs.length
    · have h9 : (k : Int) < (xs.length : Int) := by omega
      obtain ⟨x, hx⟩ : ∃ x, xs[k]? = some x := ⟨_, List.getElem?_eq_getElem hlt⟩
      obtain ⟨b, off, rfl, d0⟩ := (unhide HA).get hx
      by_cases hn : n ≤ x
      · have HZ : Hid (R = true) := by show _ = _; rw [unhide HR]; exact any_mem (p := fun x => decide (n ≤ x)) hx (decide_eq_true hn)
        clear HM hx
        go_wp2
        go_ret
        exact ⟨by rw [unhide HZ]; rfl, Below.refl _ _⟩
      · have HM2 := hide (any_snoc (p := fun x => decide (n ≤ x)) hx (unhide HM) (decide_eq_false hn))
        have hn2 : ¬ x ≥ n := hn
        clear HM hx
        go_wp2
        exact ⟨⟨k + 1, by omega, by go_num, unhide HM2, by first | trivial | rfl⟩, by simp [intOf]; omega⟩
    · have h9 : ¬ (k : Int) < (xs.length : Int) := by omega
      have HZ : Hid (R = false) := by
        have h1 := unhide HM
        rw [List.take_of_length_le (by omega)] at h1
        show _ = _
        rw [unhide HR]; exact h1
      clear HM
      go_wp2
      go_ret
      exact ⟨by rw [unhide HZ]; rfl, Below.refl _ _⟩
set_option maxRecDepth 100000 in
/-- num (7). -/
theorem num_any (n : Int) (w : World) : Calls Tryz.prog 7 #[.int .i64 n] w fun e w' => e = .returned (.int .i64 n) ∧ Below w.heap.size w w' := by
  go_enter Tryz.func7, Tryz.ntmps7
  go_wp2
  go_ret
  exact ⟨rfl, Below.refl _ _⟩
end Go.Proofs.YtcpndojkfngioaaGreat
set_option linter.unusedSimpArgs false
set_option linter.unusedVariables false
namespace Go.Proofs.YtcpndojkfngioaaGreat
open Go.RowKit Go.Sort

/-- The kind of an expression over columns of these kinds; 0, if it has none. -/
def kK (ks : List Int) (e : Ex) : Int := if kErr ks e = 0 then (kE ks e).getD 0 else 0
theorem KR.val {ks : List Int} {e : Ex} {k : Int} (h : KR ks e k) : k = kK ks e := by
  unfold kK
  by_cases h0 : kErr ks e = 0
  · rw [if_pos h0, h.1 h0]; rfl
  · rw [if_neg h0, h.2 h0]
theorem kind_det (ks : List Int) (hkl : ks.length ≤ 140737488355328) (aK : Option Addr) (cK : Nat) (e : Ex) (hf : e.fin) (a : Option Addr) (c : Nat) (w : World) (ha : Ex.all w a e.args) (hK : IntsAt w aK ks) :
    Calls Tryz.prog 89 #[e.val a c, .slice aK ks.length cK] w fun r w' => r = .returned (.tuple #[.int .i64 (kK ks e), .int .i64 (kErr ks e)]) ∧ Below w.heap.size w w' := by
  refine (kind_val ks hkl aK cK e hf a c w ha hK).mono ?_
  rintro r w' ⟨⟨k, rfl, hk⟩, hb⟩
  rw [hk.val]
  exact ⟨rfl, hb⟩
theorem rkind_det (ks : List Int) (hkl : ks.length ≤ 140737488355328) (aK : Option Addr) (cK : Nat) (e : Ex) (hf : e.fin) (a : Option Addr) (c : Nat) (w : World) (ha : Ex.all w a e.args) (hK : IntsAt w aK ks) :
    Calls Tryz.prog 67 #[e.val a c, .slice aK ks.length cK] w fun r w' => r = .returned (.tuple #[.int .i64 (kK ks e), .int .i64 (kErr ks e)]) ∧ Below w.heap.size w w' := by
  refine (rkind_val ks hkl aK cK e hf a c w ha hK).mono ?_
  rintro r w' ⟨⟨k, rfl, hk⟩, hb⟩
  rw [hk.val]
  exact ⟨rfl, hb⟩
/-- The error of a condition. -/
def condE (ks : List Int) (e : Ex) : Int := if kErr ks e = 0 ∧ kK ks e = 2 then 4 else kErr ks e
set_option maxHeartbeats 1000000 in
set_option maxRecDepth 100000 in
/-- tallyref.condition (33). -/
theorem condition_any (ks : List Int) (hkl : ks.length ≤ 140737488355328) (aK : Option Addr) (cK : Nat) (e : Ex) (hf : e.fin) (a : Option Addr) (c : Nat) (w : World) (ha : Ex.all w a e.args) (hK : IntsAt w aK ks) :
    Calls Tryz.prog 33 #[e.val a c, .slice aK ks.length cK] w fun r w' => r = .returned (.int .i64 (condE ks e)) ∧ Below w.heap.size w w' := by
  have hb0 := below_alloc (Below.refl _ w) (e.box a c)
  have HC := hide (rkind_det ks hkl aK cK e hf a c _ (Ex.all_later _ ha hb0) (hK.later hb0))
  have HB := hide hb0
  obtain ⟨R, hR⟩ : ∃ R, R = condE ks e := ⟨_, rfl⟩
  rw [← hR]
  unfold condE at hR
  have HR := hide hR
  unfold Ex.box at HC HB
  rw [Ex.val_open] at HC ⊢
  generalize kK ks e = kk at *
  generalize kErr ks e = er at *
  clear ha hK hb0 hR hf
  by_cases h0 : er = 0
  · subst h0
    by_cases h2 : kk = 2
    · subst h2
      obtain rfl : R = 4 := by rw [unhide HR]; rfl
      go_enter Tryz.func33, Tryz.ntmps33
      go_wp2_with (go_at_call 67; refine (unhide HC).mono ?_; rintro r w1 ⟨rfl, hb1⟩)
      go_ret
      exact ⟨rfl, below_step (unhide HB) hb1⟩
    · obtain rfl : R = 0 := by rw [unhide HR, if_neg (fun h => h2 h.2)]
      have b2 : (kk == 2) = false := by simpa using h2
      clear h2
      go_enter Tryz.func33, Tryz.ntmps33
      go_wp2_with (go_at_call 67; refine (unhide HC).mono ?_; rintro r w1 ⟨rfl, hb1⟩)
      go_ret
      exact ⟨rfl, below_step (unhide HB) hb1⟩
  · obtain rfl : R = er := by rw [unhide HR, if_neg (fun h => h0 h.1)]
    have b0 : (R == 0) = false := by simpa using h0
    clear h0
    go_enter Tryz.func33, Tryz.ntmps33
    go_wp2_with (go_at_call 67; refine (unhide HC).mono ?_; rintro r w1 ⟨rfl, hb1⟩)
    go_ret
    exact ⟨rfl, below_step (unhide HB) hb1⟩
end Go.Proofs.YtcpndojkfngioaaGreat
set_option linter.unusedSimpArgs false
set_option linter.unusedVariables false
namespace Go.Proofs.YtcpndojkfngioaaGreat
open Go.RowKit Go.Sort

theorem kErr_cases (ks : List Int) (e : Ex) : kErr ks e = 0 ∨ kErr ks e = 1 ∨ kErr ks e = 4 := by
  unfold kErr
  split
  · split
    · exact .inl rfl
    · exact .inr (.inr rfl)
  · exact .inr (.inl rfl)
/-- The error of a projection. -/
def projE (ks : List Int) (es : List Ex) : Int := if es.any (fun e => decide (kErr ks e = 1)) then 1 else if es.any (fun e => decide (¬ kErr ks e = 0)) then 4 else 0
/-- The kinds of a projection. -/
def projK (ks : List Int) (es : List Ex) : List Int := es.map fun e => max (kK ks e) 1
def PjQ (L : List Int) (er : Int) (w : World) (r : Ending) (w' : World) : Prop := ∃ a c M, r = .returned (.tuple #[.slice a M.length c, .int .i64 er]) ∧ OwnI w' w.heap.size (.slice a M.length c) M ∧ (er = 0 → M = L) ∧ Below w.heap.size w w'
theorem any_step {α : Type} {p : α → Bool} {l : List α} {k : Nat} {x : α} (h : l[k]? = some x) : (l.take (k + 1)).any p = ((l.take k).any p || p x) := by
  obtain ⟨h1, rfl⟩ := List.getElem?_eq_some_iff.1 h
  rw [List.take_succ_eq_append_getElem h1, List.any_append]; simp
set_option maxHeartbeats 4000000 in
set_option maxRecDepth 100000 in
/-- tallyref.projected (34). -/
theorem projected_any (ks : List Int) (hkl : ks.length ≤ 140737488355328) (aK : Option Addr) (cK : Nat) (es : List Ex) (hl : es.length ≤ 1048576) (hf : Ex.fins es) (a : Option Addr) (c : Nat) (w : World) (ha : Ex.all w a es) (hK : IntsAt w aK ks) :
    Calls Tryz.prog 34 #[.slice a es.length c, .slice aK ks.length cK] w (PjQ (projK ks es) (projE ks es) w) := by
  have HA := hide ha
  have HK := hide hK
  have HF := hide hf
  have HKL := hide hkl
  clear ha hK hf
  go_enter Tryz.func34, Tryz.ntmps34
  go_wp2_with fail
  go_loopw [6, 7, 14] (fun v er i wr => ∃ (k : Nat) (a3 : Option Addr) (c3 : Nat) (ev : Int), k ≤ es.length ∧ i = .int .i64 (k : Int) ∧ v = .slice a3 k c3 ∧ er = .int .i64 ev ∧ (ev = 0 ∨ ev = 4) ∧ Hid (ev = if (es.take k).any (fun e => decide (¬ kErr ks e = 0)) then 4 else 0) ∧ Hid (OwnI wr w.heap.size (.slice a3 k c3) (projK ks (es.take k))) ∧ Hid ((es.take k).any (fun e => decide (kErr ks e = 1)) = false) ∧ Hid (Below w.heap.size w wr)) (fun _ _ i _ => es.length - (intOf i).toNat)
  case atStart => exact ⟨0, none, 0, 0, Nat.zero_le _, rfl, rfl, rfl, .inl rfl, by show _ = _; rfl, own_nil _ _, by show _ = _; rfl, Below.refl _ _⟩
  case round =>
    obtain ⟨k, a3, c3, ev, hk, rfl, rfl, rfl, hev, HEV, HO, HM, HB⟩ := hrel
    by_cases hlt : k < es.length
    · have h9 : (k : Int) < (es.length : Int) := by omega
      obtain ⟨x, hx⟩ : ∃ x, es[k]? = some x := ⟨_, List.getElem?_eq_getElem hlt⟩
      obtain ⟨vb, vo, ea, hat⟩ := Ex.all_get (Ex.all_later _ (unhide HA) (unhide HB)) hx
      obtain ⟨a', c', ⟨d0, d1, d2, d3, d4, d5⟩, hal⟩ := Ex.at_open hat
      have hba := below_alloc (Below.refl _ wr) (.cells #[.int .i64 x.op, .int .i64 x.n, .int .i64 x.v.k, .int .i64 x.v.n, .string x.v.s, .slice a' x.args.length c'] 74)
      have HC := hide (rkind_det ks (unhide HKL) aK cK x (Ex.fins_mem (unhide HF) (List.mem_of_getElem? hx)) a' c' (wr.alloc (.cells #[.int .i64 x.op, .int .i64 x.n, .int .i64 x.v.k, .int .i64 x.v.n, .string x.v.s, .slice a' x.args.length c'] 74)) (Ex.all_later _ hal hba) (((unhide HK).later (unhide HB)).later hba))
      have HBA := hide hba
      have HX := hide hx
      rw [Ex.val_open] at HC
      rw [ea]
      have HLN : Hid ((projK ks (es.take k)).length = k) := by show _ = _; unfold projK; simp; omega
      have HT : Hid (projK ks (es.take (k + 1)) = projK ks (es.take k) ++ [max (kK ks x) 1]) := take_snocI (fun e => max (kK ks e) 1) hx
      have hcs := kErr_cases ks x
      have HS1 := hide (any_step (p := fun e => decide (kErr ks e = 1)) hx)
      have HS0 := hide (any_step (p := fun e => decide (¬ kErr ks e = 0)) hx)
      generalize projK ks (es.take k) = zs at *
      obtain ⟨kk, hkk⟩ : ∃ kk, kk = kK ks x := ⟨_, rfl⟩
      obtain ⟨er, her⟩ : ∃ er, er = kErr ks x := ⟨_, rfl⟩
      rw [← hkk] at HC HT
      rw [← her] at HC hcs HS1 HS0
      have HER := hide her
      clear hat hal hba hx hkk her ea
      rcases hcs with rfl | rfl | rfl
      · rcases hev with rfl | rfl
        · have HE2 : Hid ((if (es.take (k + 1)).any (fun e => decide (¬ kErr ks e = 0)) then 4 else 0 : Int) = 0) := by
            show _ = _; rw [unhide HS0, decide_eq_false (by simp : ¬ ¬ (0 : Int) = 0), Bool.or_false]; exact (unhide HEV).symm
          have HM2 : Hid ((es.take (k + 1)).any (fun e => decide (kErr ks e = 1)) = false) := by show _ = _; rw [unhide HS1, unhide HM]; simp
          clear HEV HS0 HS1 HM
          by_cases hm : kk < 1
          · have HX1 : Hid (max kk 1 = 1) := by show _ = _; omega
            rw [unhide HX1] at HT
            clear HX1
            go_wp2_with (first
                | (go_at_call 67; refine (unhide HC).mono ?_; rintro r w3 ⟨rfl, hb3⟩; have hb4 := below_alloc (below_step (unhide HBA) hb3) (.cells #[.int .i64 1] 3); have HO1 := hide ((unhide HO).later hb4); have HS := hide (own_single w3 w.heap.size (below_step (unhide HB) (below_step (unhide HBA) hb3)).size (1)); have HB4 := hide (below_step (unhide HB) hb4))
                | (at_builtin; refine wpList_push_ints _ rfl (.tmp 33) (.tmp 36) rfl w.heap.size w.heap.size _ _ zs [1] rfl (unhide HO1) rfl (unhide HS) (by rw [unhide HLN]; simp; omega) (unhide HB4).size ?_; intro v' w' hO' hB'))
            all_goals
              obtain ⟨a4, c4, rfl⟩ := hO'.slice
              have e : (zs ++ [1]).length = k + 1 := by rw [List.length_append, unhide HLN]; rfl
              rw [e] at hO' ⊢
              rw [← unhide HT] at hO'
              exact ⟨⟨k + 1, a4, c4, 0, by omega, by go_num, rfl, rfl, by omega, (unhide HE2).symm, hO', unhide HM2, (unhide HB4).trans hB'⟩, by simp [intOf]; omega⟩
          · have hm1 : 1 ≤ kk := by omega
            have HX1 : Hid (max kk 1 = kk) := by show _ = _; omega
            rw [unhide HX1] at HT
            clear HX1
            go_wp2_with (first
                | (go_at_call 67; refine (unhide HC).mono ?_; rintro r w3 ⟨rfl, hb3⟩; have hb4 := below_alloc (below_step (unhide HBA) hb3) (.cells #[.int .i64 kk] 3); have HO1 := hide ((unhide HO).later hb4); have HS := hide (own_single w3 w.heap.size (below_step (unhide HB) (below_step (unhide HBA) hb3)).size (kk)); have HB4 := hide (below_step (unhide HB) hb4))
                | (at_builtin; refine wpList_push_ints _ rfl (.tmp 33) (.tmp 36) rfl w.heap.size w.heap.size _ _ zs [kk] rfl (unhide HO1) rfl (unhide HS) (by rw [unhide HLN]; simp; omega) (unhide HB4).size ?_; intro v' w' hO' hB'))
            all_goals
              obtain ⟨a4, c4, rfl⟩ := hO'.slice
              have e : (zs ++ [kk]).length = k + 1 := by rw [List.length_append, unhide HLN]; rfl
              rw [e] at hO' ⊢
              rw [← unhide HT] at hO'
              exact ⟨⟨k + 1, a4, c4, 0, by omega, by go_num, rfl, rfl, by omega, (unhide HE2).symm, hO', unhide HM2, (unhide HB4).trans hB'⟩, by simp [intOf]; omega⟩
        · have HE2 : Hid ((if (es.take (k + 1)).any (fun e => decide (¬ kErr ks e = 0)) then 4 else 0 : Int) = 4) := by
            show _ = _; rw [unhide HS0, decide_eq_false (by simp : ¬ ¬ (0 : Int) = 0), Bool.or_false]; exact (unhide HEV).symm
          have HM2 : Hid ((es.take (k + 1)).any (fun e => decide (kErr ks e = 1)) = false) := by show _ = _; rw [unhide HS1, unhide HM]; simp
          clear HEV HS0 HS1 HM
          by_cases hm : kk < 1
          · have HX1 : Hid (max kk 1 = 1) := by show _ = _; omega
            rw [unhide HX1] at HT
            clear HX1
            go_wp2_with (first
                | (go_at_call 67; refine (unhide HC).mono ?_; rintro r w3 ⟨rfl, hb3⟩; have hb4 := below_alloc (below_step (unhide HBA) hb3) (.cells #[.int .i64 1] 3); have HO1 := hide ((unhide HO).later hb4); have HS := hide (own_single w3 w.heap.size (below_step (unhide HB) (below_step (unhide HBA) hb3)).size (1)); have HB4 := hide (below_step (unhide HB) hb4))
                | (at_builtin; refine wpList_push_ints _ rfl (.tmp 33) (.tmp 36) rfl w.heap.size w.heap.size _ _ zs [1] rfl (unhide HO1) rfl (unhide HS) (by rw [unhide HLN]; simp; omega) (unhide HB4).size ?_; intro v' w' hO' hB'))
            all_goals
              obtain ⟨a4, c4, rfl⟩ := hO'.slice
              have e : (zs ++ [1]).length = k + 1 := by rw [List.length_append, unhide HLN]; rfl
              rw [e] at hO' ⊢
              rw [← unhide HT] at hO'
              exact ⟨⟨k + 1, a4, c4, 4, by omega, by go_num, rfl, rfl, by omega, (unhide HE2).symm, hO', unhide HM2, (unhide HB4).trans hB'⟩, by simp [intOf]; omega⟩
          · have hm1 : 1 ≤ kk := by omega
            have HX1 : Hid (max kk 1 = kk) := by show _ = _; omega
            rw [unhide HX1] at HT
            clear HX1
            go_wp2_with (first
                | (go_at_call 67; refine (unhide HC).mono ?_; rintro r w3 ⟨rfl, hb3⟩; have hb4 := below_alloc (below_step (unhide HBA) hb3) (.cells #[.int .i64 kk] 3); have HO1 := hide ((unhide HO).later hb4); have HS := hide (own_single w3 w.heap.size (below_step (unhide HB) (below_step (unhide HBA) hb3)).size (kk)); have HB4 := hide (below_step (unhide HB) hb4))
                | (at_builtin; refine wpList_push_ints _ rfl (.tmp 33) (.tmp 36) rfl w.heap.size w.heap.size _ _ zs [kk] rfl (unhide HO1) rfl (unhide HS) (by rw [unhide HLN]; simp; omega) (unhide HB4).size ?_; intro v' w' hO' hB'))
            all_goals
              obtain ⟨a4, c4, rfl⟩ := hO'.slice
              have e : (zs ++ [kk]).length = k + 1 := by rw [List.length_append, unhide HLN]; rfl
              rw [e] at hO' ⊢
              rw [← unhide HT] at hO'
              exact ⟨⟨k + 1, a4, c4, 4, by omega, by go_num, rfl, rfl, by omega, (unhide HE2).symm, hO', unhide HM2, (unhide HB4).trans hB'⟩, by simp [intOf]; omega⟩
      · have HZ : Hid (projE ks es = 1) := by
          show _ = _
          unfold projE
          rw [any_mem (p := fun e => decide (kErr ks e = 1)) (unhide HX) (decide_eq_true (unhide HER).symm)]
          rfl
        clear HEV HS0 HS1 HM HT
        rcases hev with rfl | rfl
        all_goals
          go_wp2_with (go_at_call 67; refine (unhide HC).mono ?_; rintro r w3 ⟨rfl, hb3⟩)
          refine bodyPost_ret (v := .tuple #[.slice a3 k c3, .int .i64 1]) (by simp [results, Tryz.results34, go_sem]) rfl ?_
          refine ⟨a3, c3, zs, by rw [unhide HLN, unhide HZ], ?_, (fun h => by rw [unhide HZ] at h; cases h), below_step (unhide HB) (below_step (unhide HBA) hb3)⟩
          rw [unhide HLN]
          exact (unhide HO).later (below_step (unhide HBA) hb3)
      · rcases hev with rfl | rfl
        · have HE2 : Hid ((if (es.take (k + 1)).any (fun e => decide (¬ kErr ks e = 0)) then 4 else 0 : Int) = 4) := by
            show _ = _; rw [unhide HS0]; simp
          have HM2 : Hid ((es.take (k + 1)).any (fun e => decide (kErr ks e = 1)) = false) := by show _ = _; rw [unhide HS1, unhide HM]; simp
          clear HEV HS0 HS1 HM
          by_cases hm : kk < 1
          · have HX1 : Hid (max kk 1 = 1) := by show _ = _; omega
            rw [unhide HX1] at HT
            clear HX1
            go_wp2_with (first
                | (go_at_call 67; refine (unhide HC).mono ?_; rintro r w3 ⟨rfl, hb3⟩; have hb4 := below_alloc (below_step (unhide HBA) hb3) (.cells #[.int .i64 1] 3); have HO1 := hide ((unhide HO).later hb4); have HS := hide (own_single w3 w.heap.size (below_step (unhide HB) (below_step (unhide HBA) hb3)).size (1)); have HB4 := hide (below_step (unhide HB) hb4))
                | (at_builtin; refine wpList_push_ints _ rfl (.tmp 33) (.tmp 36) rfl w.heap.size w.heap.size _ _ zs [1] rfl (unhide HO1) rfl (unhide HS) (by rw [unhide HLN]; simp; omega) (unhide HB4).size ?_; intro v' w' hO' hB'))
            all_goals
              obtain ⟨a4, c4, rfl⟩ := hO'.slice
              have e : (zs ++ [1]).length = k + 1 := by rw [List.length_append, unhide HLN]; rfl
              rw [e] at hO' ⊢
              rw [← unhide HT] at hO'
              exact ⟨⟨k + 1, a4, c4, 4, by omega, by go_num, rfl, rfl, by omega, (unhide HE2).symm, hO', unhide HM2, (unhide HB4).trans hB'⟩, by simp [intOf]; omega⟩
          · have hm1 : 1 ≤ kk := by omega
            have HX1 : Hid (max kk 1 = kk) := by show _ = _; omega
            rw [unhide HX1] at HT
            clear HX1
            go_wp2_with (first
                | (go_at_call 67; refine (unhide HC).mono ?_; rintro r w3 ⟨rfl, hb3⟩; have hb4 := below_alloc (below_step (unhide HBA) hb3) (.cells #[.int .i64 kk] 3); have HO1 := hide ((unhide HO).later hb4); have HS := hide (own_single w3 w.heap.size (below_step (unhide HB) (below_step (unhide HBA) hb3)).size (kk)); have HB4 := hide (below_step (unhide HB) hb4))
                | (at_builtin; refine wpList_push_ints _ rfl (.tmp 33) (.tmp 36) rfl w.heap.size w.heap.size _ _ zs [kk] rfl (unhide HO1) rfl (unhide HS) (by rw [unhide HLN]; simp; omega) (unhide HB4).size ?_; intro v' w' hO' hB'))
            all_goals
              obtain ⟨a4, c4, rfl⟩ := hO'.slice
              have e : (zs ++ [kk]).length = k + 1 := by rw [List.length_append, unhide HLN]; rfl
              rw [e] at hO' ⊢
              rw [← unhide HT] at hO'
              exact ⟨⟨k + 1, a4, c4, 4, by omega, by go_num, rfl, rfl, by omega, (unhide HE2).symm, hO', unhide HM2, (unhide HB4).trans hB'⟩, by simp [intOf]; omega⟩
        · have HE2 : Hid ((if (es.take (k + 1)).any (fun e => decide (¬ kErr ks e = 0)) then 4 else 0 : Int) = 4) := by
            show _ = _; rw [unhide HS0]; simp
          have HM2 : Hid ((es.take (k + 1)).any (fun e => decide (kErr ks e = 1)) = false) := by show _ = _; rw [unhide HS1, unhide HM]; simp
          clear HEV HS0 HS1 HM
          by_cases hm : kk < 1
          · have HX1 : Hid (max kk 1 = 1) := by show _ = _; omega
            rw [unhide HX1] at HT
            clear HX1
            go_wp2_with (first
                | (go_at_call 67; refine (unhide HC).mono ?_; rintro r w3 ⟨rfl, hb3⟩; have hb4 := below_alloc (below_step (unhide HBA) hb3) (.cells #[.int .i64 1] 3); have HO1 := hide ((unhide HO).later hb4); have HS := hide (own_single w3 w.heap.size (below_step (unhide HB) (below_step (unhide HBA) hb3)).size (1)); have HB4 := hide (below_step (unhide HB) hb4))
                | (at_builtin; refine wpList_push_ints _ rfl (.tmp 33) (.tmp 36) rfl w.heap.size w.heap.size _ _ zs [1] rfl (unhide HO1) rfl (unhide HS) (by rw [unhide HLN]; simp; omega) (unhide HB4).size ?_; intro v' w' hO' hB'))
            all_goals
              obtain ⟨a4, c4, rfl⟩ := hO'.slice
              have e : (zs ++ [1]).length = k + 1 := by rw [List.length_append, unhide HLN]; rfl
              rw [e] at hO' ⊢
              rw [← unhide HT] at hO'
              exact ⟨⟨k + 1, a4, c4, 4, by omega, by go_num, rfl, rfl, by omega, (unhide HE2).symm, hO', unhide HM2, (unhide HB4).trans hB'⟩, by simp [intOf]; omega⟩
          · have hm1 : 1 ≤ kk := by omega
            have HX1 : Hid (max kk 1 = kk) := by show _ = _; omega
            rw [unhide HX1] at HT
            clear HX1
            go_wp2_with (first
                | (go_at_call 67; refine (unhide HC).mono ?_; rintro r w3 ⟨rfl, hb3⟩; have hb4 := below_alloc (below_step (unhide HBA) hb3) (.cells #[.int .i64 kk] 3); have HO1 := hide ((unhide HO).later hb4); have HS := hide (own_single w3 w.heap.size (below_step (unhide HB) (below_step (unhide HBA) hb3)).size (kk)); have HB4 := hide (below_step (unhide HB) hb4))
                | (at_builtin; refine wpList_push_ints _ rfl (.tmp 33) (.tmp 36) rfl w.heap.size w.heap.size _ _ zs [kk] rfl (unhide HO1) rfl (unhide HS) (by rw [unhide HLN]; simp; omega) (unhide HB4).size ?_; intro v' w' hO' hB'))
            all_goals
              obtain ⟨a4, c4, rfl⟩ := hO'.slice
              have e : (zs ++ [kk]).length = k + 1 := by rw [List.length_append, unhide HLN]; rfl
              rw [e] at hO' ⊢
              rw [← unhide HT] at hO'
              exact ⟨⟨k + 1, a4, c4, 4, by omega, by go_num, rfl, rfl, by omega, (unhide HE2).symm, hO', unhide HM2, (unhide HB4).trans hB'⟩, by simp [intOf]; omega⟩
    · have h9 : ¬ (k : Int) < (es.length : Int) := by omega
      obtain rfl : k = es.length := by omega
      rw [List.take_length] at HO HM HEV
      have HZ : Hid (projE ks es = ev) := by show _ = _; unfold projE; rw [unhide HM, unhide HEV]; rfl
      have HLN : Hid ((projK ks es).length = es.length) := by show _ = _; unfold projK; simp
      clear hk hlt HEV HM
      go_wp2
      refine bodyPost_ret (v := .tuple #[.slice a3 es.length c3, .int .i64 ev]) (by simp [results, Tryz.results34, go_sem]) rfl ?_
      refine ⟨a3, c3, projK ks es, by rw [unhide HLN, unhide HZ], by rw [unhide HLN]; exact unhide HO, fun _ => rfl, unhide HB⟩
end Go.Proofs.YtcpndojkfngioaaGreat
set_option linter.unusedSimpArgs false
set_option linter.unusedVariables false
namespace Go.Proofs.YtcpndojkfngioaaGreat
open Go.RowKit Go.Sort

set_option maxHeartbeats 2000000 in
set_option maxRecDepth 100000 in
/-- columnKinds (86). -/
theorem columnKinds_any (ks : List (ByteArray × Int)) (a : Option Addr) (c : Nat) (w : World) (hl : ks.length ≤ 1048576) (ha : ColsT w a ks) :
    Calls Tryz.prog 86 #[.slice a ks.length c] w (OwnQ (ks.map Prod.snd) w) := by
  have HA := hide ha
  obtain ⟨i4, hi4, z40, z41, z42⟩ := info_parts info3K
  clear ha
  go_enter Tryz.func86, Tryz.ntmps86
  go_upto_region 2 with (at_make; refine wpList_make_full _ rfl (.tmp 7) (.tmp 7) 23 rfl w.heap.size 3 i4 (.int .i64 0) 1 Tryz.underlying23 hi4 z40 z41 .i64 .i64 _ _ ks.length rfl rfl rfl rfl (by rw [z42]; omega) (by unfold maxLen; omega) (Nat.le_refl _) ?_; intro w2 hO2 hg2)
  have HB2 := hide (grown_below hg2 (Nat.le_refl _) (fun g hg => by cases hg))
  have HO2 := hide (made_ints hO2)
  clear hO2 hg2 z40 z41 z42 hi4
  go_wp2_with fail
  go_loopw [11] (fun i wr => ∃ (k : Nat), k ≤ ks.length ∧ i = .int .i64 (k : Int) ∧ Hid (OwnI wr w.heap.size (.slice (some ⟨w.heap.size, 0, none⟩) ks.length ks.length) ((ks.take k).map Prod.snd ++ List.replicate (ks.length - k) 0)) ∧ Hid (Below w.heap.size w wr)) (fun i _ => ks.length - (intOf i).toNat)
  case atStart => exact ⟨0, Nat.zero_le _, rfl, unhide HO2, unhide HB2⟩
  case round =>
    clear HO2 HB2
    obtain ⟨k, hk, rfl, HO, HB⟩ := hrel
    by_cases hlt : k < ks.length
    · have h9 : (k : Int) < (ks.length : Int) := by omega
      obtain ⟨x, hx⟩ : ∃ x, ks[k]? = some x := ⟨_, List.getElem?_eq_getElem hlt⟩
      obtain ⟨b, off, rfl, d0, d1⟩ := ((unhide HA).later (unhide HB)).get hx
      have HT := hide (take_snocI Prod.snd hx)
      have hlen : ((ks.take k).map Prod.snd).length = k := by simp; omega
      have hb1 := below_alloc (Below.refl _ wr) (.cells #[.string x.1, .int .i64 x.2] 63)
      have hO1 := (unhide HO).later hb1
      obtain ⟨y1, y2⟩ := at_zeroP _ ks.length k hlen hlt
      obtain ⟨q0, q1⟩ := hO1.at y2 y1
      have hO3 := hO1.store (k := k) y2 x.2
      rw [set_zeroP _ _ _ hlen hlt, ← unhide HT] at hO3
      have HO3 := hide hO3
      have HB3 := hide ((below_step (unhide HB) hb1).setCell (p := ⟨w.heap.size, k, none⟩) (Nat.le_refl _) (.int .i64 x.2))
      obtain ⟨x1, x2⟩ := x
      simp only at d0 d1 q0 q1 HO3 HB3
      clear hx hb1 hlen hO1 hO3 y1 y2 HO HT
      go_wp2
      exact ⟨⟨k + 1, by omega, by go_num, unhide HO3, unhide HB3⟩, by simp [intOf]; omega⟩
    · have h9 : ¬ (k : Int) < (ks.length : Int) := by omega
      obtain rfl : k = ks.length := by omega
      rw [List.take_length, Nat.sub_self, List.replicate_zero, List.append_nil] at HO
      clear hk hlt
      go_wp2
      go_ret
      refine ⟨_, _, by rw [List.length_map]; rfl, ?_, unhide HB⟩
      rw [List.length_map]
      exact unhide HO
set_option maxHeartbeats 1000000 in
set_option maxRecDepth 100000 in
/-- fits$1 (90): an expression that is not fit for columns of these kinds. -/
theorem unfit_any (ks : List Int) (hkl : ks.length ≤ 140737488355328) (aK : Option Addr) (cK : Nat) (q : Nat) (e : Ex) (hf : e.fin) (a : Option Addr) (c : Nat) (w : World) (ha : Ex.all w a e.args) (hK : IntsAt w aK ks) (hq : w.cell? ⟨q, 0, none⟩ = some (.slice aK ks.length cK)) :
    Calls Tryz.prog 90 #[e.val a c, .pointer (some ⟨q, 0, none⟩)] w fun r w' => r = .returned (.bool (decide (¬ kErr ks e = 0))) ∧ Below w.heap.size w w' := by
  have hb0 := below_alloc (Below.refl _ w) (e.box a c)
  have HC := hide (kind_det ks hkl aK cK e hf a c _ (Ex.all_later _ ha hb0) (hK.later hb0))
  have c0 := clater hq hb0
  have HB := hide hb0
  have hd : (decide (¬ kErr ks e = 0)) = (kErr ks e != 0) := by rw [Bool.eq_iff_iff, decide_eq_true_eq, bne_iff_ne]
  rw [hd]
  unfold Ex.box at HC HB c0
  rw [Ex.val_open] at HC ⊢
  generalize kK ks e = kk at *
  generalize kErr ks e = er at *
  clear ha hK hb0 hf hd hq
  go_enter Tryz.func90, Tryz.ntmps90
  go_wp2_with (go_at_call 89; refine (unhide HC).mono ?_; rintro r w1 ⟨rfl, hb1⟩)
  go_ret
  exact ⟨rfl, below_step (unhide HB) hb1⟩
end Go.Proofs.YtcpndojkfngioaaGreat
set_option linter.unusedSimpArgs false
set_option linter.unusedVariables false
namespace Go.Proofs.YtcpndojkfngioaaGreat
open Go.RowKit Go.Sort

/-- A sum of texts. -/
def aggBad (ks : List Int) (x : Int × Int) : Bool := x.1 == 3 && (ks[x.2.toNat]?).getD 0 == 2
set_option maxHeartbeats 1000000 in
set_option maxRecDepth 100000 in
/-- fits$2 (92). -/
theorem aggBad_any (ks : List Int) (aK : Option Addr) (cK : Nat) (q : Nat) (f c : Int) (hkl : ks.length ≤ 140737488355328) (hc : f = 3 → 0 ≤ c ∧ c < (ks.length : Int)) (w : World) (hK : IntsAt w aK ks) (hq : w.cell? ⟨q, 0, none⟩ = some (.slice aK ks.length cK)) :
    Calls Tryz.prog 92 #[.agg #[.int .i64 f, .int .i64 c], .pointer (some ⟨q, 0, none⟩)] w fun r w' => r = .returned (.bool (aggBad ks (f, c))) ∧ Below w.heap.size w w' := by
  have hb0 := below_alloc (Below.refl _ w) (.cells #[.int .i64 f, .int .i64 c] 100)
  have HB := hide hb0
  have c0 := clater hq hb0
  obtain ⟨R, hR⟩ : ∃ R, R = aggBad ks (f, c) := ⟨_, rfl⟩
  rw [← hR]
  unfold aggBad at hR
  by_cases h3 : f = 3
  · obtain ⟨g1, g2⟩ := hc h3
    obtain ⟨n, rfl⟩ : ∃ n : Nat, c = (n : Int) := ⟨c.toNat, by omega⟩
    have hn : n < ks.length := by omega
    obtain ⟨y, hy⟩ : ∃ y, ks[n]? = some y := ⟨_, List.getElem?_eq_getElem hn⟩
    obtain ⟨b, off, rfl, d0⟩ := (hK.later hb0).get hy
    obtain rfl : R = (y == 2) := by rw [hR, h3, Int.toNat_natCast, hy]; rfl
    subst h3
    clear hR hq hy hK hc hb0
    go_enter Tryz.func92, Tryz.ntmps92
    go_wp2
    go_ret
    exact ⟨rfl, unhide HB⟩
  · have b3 : (f == 3) = false := by simpa using h3
    obtain rfl : R = false := by rw [hR]; simp only; rw [b3]; rfl
    clear hR hq hK hc hb0 h3
    go_enter Tryz.func92, Tryz.ntmps92
    go_wp2
    go_ret
    exact ⟨rfl, unhide HB⟩
end Go.Proofs.YtcpndojkfngioaaGreat
