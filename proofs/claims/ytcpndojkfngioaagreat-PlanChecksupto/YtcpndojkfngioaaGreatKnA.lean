import Derived.Test.YtcpndojkfngioaaGreatExE
import Derived.OwnWalk
set_option linter.unusedSimpArgs false
set_option linter.unusedVariables false
set_option maxRecDepth 100000
namespace Go.Proofs.YtcpndojkfngioaaGreat
open Go.RowKit Go.Sort

theorem info3K : (Tryz.prog.info? 3).map (fun i => (i.zero, i.size, i.bytes)) = some (some (.int .i64 0), 1, 8) := by kernel_rfl
theorem all_dropK {p : Int → Bool} {l : List Int} {k : Nat} {x : Int} (hx : l[k]? = some x) : (l.drop k).all p = (p x && (l.drop (k + 1)).all p) := by
  obtain ⟨q1, q2⟩ := List.getElem?_eq_some_iff.1 hx
  rw [List.drop_eq_getElem_cons q1, List.all_cons, q2]
def noK (n : Int) : Bool := n != 1 && n != 2
set_option maxHeartbeats 400000 in
/-- isNoKind (33). -/
theorem nokind_any (n : Int) (w : World) : Calls Tryz.prog 114 #[.int .i64 n] w fun r w' => r = .returned (.bool (noK n)) ∧ Below w.heap.size w w' := by
  by_cases h1 : n = 1
  · subst h1
    go_enter Tryz.func114, Tryz.ntmps114
    go_wp2
    go_ret
    exact ⟨rfl, by first | exact Below.refl _ _ | exact below_alloc (Below.refl _ _) _⟩
  · have e1 : (n != 1) = true := by simpa using h1
    have hn : noK n = (n != 2) := by unfold noK; rw [e1]; rfl
    rw [hn]
    go_enter Tryz.func114, Tryz.ntmps114
    go_wp2
    go_ret
    exact ⟨rfl, by first | exact Below.refl _ _ | exact below_alloc (Below.refl _ _) _⟩
set_option maxHeartbeats 400000 in
set_option maxRecDepth 100000 in
theorem indexK_any (a : Option Addr) (c : Nat) (l : List Int) (w : World) (hl : l.length ≤ 140737488355328) (ha : IntsAt w a l) :
    Calls Tryz.prog 83 #[.slice a l.length c, .func (.func 114) #[] #[]] w fun e w' => ∃ r : Int, e = .returned (.int .i64 r) ∧ decide (0 ≤ r) = l.any noK ∧ Below w.heap.size w w' := by
  have HA := hide ha
  have HC := hide nokind_any
  clear ha
  go_enter Tryz.func83, Tryz.ntmps83
  go_wp2_with fail
  go_loopw [8] (fun i wr => ∃ k : Nat, k ≤ l.length ∧ i = .int .i64 (k : Int) ∧ Hid (∀ i x, i < k → l[i]? = some x → noK x = false) ∧ Below w.heap.size w wr) (fun i _ => l.length - (intOf i).toNat)
  case atStart => exact ⟨0, Nat.zero_le _, rfl, fun i x hi => absurd hi (by omega), Below.refl _ _⟩
  case round =>
    obtain ⟨k, hk, rfl, HN, hb⟩ := hrel
    by_cases hlt : k < l.length
    · have h9 : (k : Int) < (l.length : Int) := by omega
      obtain ⟨x, hx⟩ : ∃ x, l[k]? = some x := ⟨_, List.getElem?_eq_getElem hlt⟩
      obtain ⟨vb, vo, rfl, d0⟩ := ((unhide HA).later hb).get hx
      have HX := hide (unhide HC x wr)
      have HB := hide hb
      clear hb
      cases hp : noK x
      · have HE := hide (no_step (p := noK) (unhide HN) hx hp)
        rw [hp] at HX
        clear hx HN hp
        go_wp2_with (go_at_call 114; refine (unhide HX).mono ?_; rintro r w1 ⟨rfl, hb1⟩)
        exact ⟨⟨k + 1, by omega, by go_num, unhide HE, below_step (unhide HB) hb1⟩, by simp [intOf]; omega⟩
      · have HE : Hid (l.any noK = true) := any_at (p := noK) hx hp
        rw [hp] at HX
        clear hx HN hp
        go_wp2_with (go_at_call 114; refine (unhide HX).mono ?_; rintro r w1 ⟨rfl, hb1⟩)
        go_ret
        exact ⟨_, rfl, by rw [unhide HE]; simp, below_step (unhide HB) hb1⟩
    · have h9 : ¬ (k : Int) < (l.length : Int) := by omega
      have HE : Hid (l.any noK = false) := any_no fun i x hi hx => unhide HN i x (by omega) hx
      have HB := hide hb
      clear HN hb
      go_wp2
      go_ret
      exact ⟨_, rfl, by rw [unhide HE]; rfl, unhide HB⟩
theorem containsK_any (a : Option Addr) (c : Nat) (l : List Int) (w : World) (hl : l.length ≤ 140737488355328) (ha : IntsAt w a l) :
    Calls Tryz.prog 62 #[.slice a l.length c, .func (.func 114) #[] #[]] w fun e w' => e = .returned (.bool (l.any noK)) ∧ Below w.heap.size w w' := by
  have HI := hide (indexK_any a c l w hl ha)
  clear ha
  generalize l.any noK = r at *
  go_enter Tryz.func62, Tryz.ntmps62
  go_wp2_with (go_at_call 83; refine (unhide HI).mono ?_; rintro e w1 ⟨q, rfl, hq, hb⟩)
  go_ret
  exact ⟨rfl, hb⟩
def fitB (k : Int) (l : List Int) : Bool := l.all fun p => p == k || p == 0
set_option maxHeartbeats 400000 in
set_option maxRecDepth 100000 in
/-- allFit (93). -/
theorem fit_any (q : Int) (a : Option Addr) (c : Nat) (l : List Int) (w : World) (hl : l.length ≤ 140737488355328) (ha : IntsAt w a l) :
    Calls Tryz.prog 139 #[.int .i64 q, .slice a l.length c] w fun r w' => r = .returned (.bool (fitB q l)) ∧ Below w.heap.size w w' := by
  have HA := hide ha
  clear ha
  have HR : Hid (fitB q l = (l.drop 0).all fun p => p == q || p == 0) := rfl
  generalize fitB q l = R at *
  go_enter Tryz.func139, Tryz.ntmps139
  go_wp2_with fail
  go_loopw [9] (fun i wr => ∃ k : Nat, k ≤ l.length ∧ i = .int .i64 (k : Int) ∧ Hid (R = (l.drop k).all fun p => p == q || p == 0) ∧ Below w.heap.size w wr) (fun i _ => l.length - (intOf i).toNat)
  case atStart => exact ⟨0, Nat.zero_le _, rfl, unhide HR, Below.refl _ _⟩
  case round =>
    obtain ⟨k, hk, rfl, HN, hb⟩ := hrel
    have HB := hide hb
    by_cases hlt : k < l.length
    · have h9 : (k : Int) < (l.length : Int) := by omega
      obtain ⟨x, hx⟩ : ∃ x, l[k]? = some x := ⟨_, List.getElem?_eq_getElem hlt⟩
      obtain ⟨vb, vo, rfl, d0⟩ := ((unhide HA).later hb).get hx
      rw [all_dropK hx] at HN
      clear hx hb HR
      by_cases h1 : x = q
      · subst h1
        have HN2 : Hid (R = (l.drop (k + 1)).all fun p => p == x || p == 0) := by have := unhide HN; show _ = _; simpa using this
        clear HN
        go_wp2
        exact ⟨⟨k + 1, by omega, by go_num, unhide HN2, unhide HB⟩, by simp [intOf]; omega⟩
      · have e1 : (x != q) = true := by simpa using h1
        have e2 : (x == q) = false := by simpa using h1
        rw [e2, Bool.false_or] at HN
        by_cases h2 : x = 0
        · subst h2
          have HN2 : Hid (R = (l.drop (k + 1)).all fun p => p == q || p == 0) := by have := unhide HN; show _ = _; simpa using this
          clear HN h1 e2
          go_wp2
          exact ⟨⟨k + 1, by omega, by go_num, unhide HN2, unhide HB⟩, by simp [intOf]; omega⟩
        · have e3 : (x != 0) = true := by simpa using h2
          have e4 : (x == 0) = false := by simpa using h2
          rw [e4, Bool.false_and] at HN
          clear h1 h2 e2 e4
          go_wp2
          go_ret
          exact ⟨by rw [unhide HN]; rfl, unhide HB⟩
    · have h9 : ¬ (k : Int) < (l.length : Int) := by omega
      rw [List.drop_eq_nil_of_le (by omega), List.all_nil] at HN
      clear hb
      go_wp2
      go_ret
      exact ⟨by rw [unhide HN]; rfl, unhide HB⟩
def comm (a b : Int) : Int × Bool := if a == 0 then (b, true) else (a, b == 0 || a == b)
set_option maxHeartbeats 400000 in
/-- common (94). -/
theorem common_any (a b : Int) (w : World) : Calls Tryz.prog 140 #[.int .i64 a, .int .i64 b] w fun r w' => r = .returned (.tuple #[.int .i64 (comm a b).1, .bool (comm a b).2]) ∧ Below w.heap.size w w' := by
  by_cases h1 : a = 0
  · subst h1
    go_enter Tryz.func140, Tryz.ntmps140
    go_wp2
    refine bodyPost_ret (v := .tuple #[.int .i64 b, .bool true]) (by simp [results, Tryz.results140, go_sem]) rfl ⟨rfl, by first | exact Below.refl _ _ | exact below_alloc (Below.refl _ _) _⟩
  · have e1 : (a == 0) = false := by simpa using h1
    have hc : comm a b = (a, b == 0 || a == b) := by unfold comm; rw [e1]; rfl
    rw [hc]
    by_cases h2 : b = 0
    · subst h2
      go_enter Tryz.func140, Tryz.ntmps140
      go_wp2
      refine bodyPost_ret (v := .tuple #[.int .i64 a, .bool true]) (by simp [results, Tryz.results140, go_sem]) rfl ⟨rfl, by first | exact Below.refl _ _ | exact below_alloc (Below.refl _ _) _⟩
    · have e2 : (b == 0) = false := by simpa using h2
      simp only [e2, Bool.false_or]
      go_enter Tryz.func140, Tryz.ntmps140
      go_wp2
      refine bodyPost_ret (v := .tuple #[.int .i64 a, .bool (a == b)]) (by simp [results, Tryz.results140, go_sem]) rfl ⟨rfl, by first | exact Below.refl _ _ | exact below_alloc (Below.refl _ _) _⟩
/-- The kind of an operator over these kinds, and whether they fit. -/
def kOf (op : Int) (l : List Int) : Int × Bool :=
  if op == 5 then (1, true) else if op == 6 then (1, fitB 2 l) else if op == 18 then (2, fitB 2 l)
  else if decide (12 ≤ op) && decide (op ≤ 17) then (1, (comm (l.getD 0 0) (l.getD 1 0)).2)
  else if op == 21 then ((comm (l.getD 1 0) (l.getD 2 0)).1, (comm (l.getD 1 0) (l.getD 2 0)).2 && fitB 1 (l.take 1))
  else (1, fitB 1 l)
theorem slice_one (a : Option Addr) (n c : Nat) (W : World) (hk : 1 ≤ c) : (Instr.slice 23 (.slice a n c) none (some (.int .i64 1)) none).run Tryz.prog W = .ok (.slice a 1 c) W := by
  obtain ⟨i, hi, _, hz, _⟩ := info_parts info3K
  have ea : a.map (fun x : Addr => x.add 0) = a := by cases a with | none => rfl | some a => simp [Addr.add]
  simp [Instr.slice, run_underlying Tryz.underlying23, Instr.sliceBounds, Instr.sliceBound, asIntOf, sizeOf, typeInfo, hi, hz, ea]
  intro h
  omega
set_option maxHeartbeats 1000000 in
set_option maxRecDepth 100000 in
/-- kindOf (63). -/
theorem kof_any (op : Int) (a : Option Addr) (c : Nat) (l : List Int) (w : World) (hl : (l.length : Int) = arI op) (hlc : l.length ≤ c) (ha : IntsAt w a l) :
    Calls Tryz.prog 127 #[.int .i64 op, .slice a l.length c] w fun r w' => r = .returned (.tuple #[.int .i64 (kOf op l).1, .bool (kOf op l).2]) ∧ Below w.heap.size w w' := by
  have hll : l.length ≤ 140737488355328 := by
    have : arI op ≤ 3 := by unfold arI; split; omega; split; omega; split; omega; split; omega; split <;> omega
    omega
  have HF1 := hide (fun q W (hW : Below w.heap.size w W) => fit_any q a c l W hll (ha.later hW))
  have HCM := hide common_any
  by_cases h5 : op = 5
  · subst h5
    clear HF1 HCM
    go_enter Tryz.func127, Tryz.ntmps127
    go_wp2
    refine bodyPost_ret (v := .tuple #[.int .i64 1, .bool true]) (by simp [results, Tryz.results127, go_sem]) rfl ⟨rfl, by first | exact Below.refl _ _ | exact below_alloc (Below.refl _ _) _⟩
  have n5 : (op == 5) = false := by simpa using h5
  by_cases h6 : op = 6
  · subst h6
    have hk : kOf 6 l = (1, fitB 2 l) := rfl
    rw [hk]
    have HX := hide (unhide HF1 2 w (Below.refl _ _))
    clear HF1 HCM ha hk
    go_enter Tryz.func127, Tryz.ntmps127
    go_wp2_with (go_at_call 139; refine (unhide HX).mono ?_; rintro r w1 ⟨rfl, hb1⟩)
    refine bodyPost_ret (v := .tuple #[.int .i64 1, .bool (fitB 2 l)]) (by simp [results, Tryz.results127, go_sem]) rfl ⟨rfl, hb1⟩
  have n6 : (op == 6) = false := by simpa using h6
  by_cases h18 : op = 18
  · subst h18
    have hk : kOf 18 l = (2, fitB 2 l) := rfl
    rw [hk]
    have HX := hide (unhide HF1 2 w (Below.refl _ _))
    clear HF1 HCM ha hk
    go_enter Tryz.func127, Tryz.ntmps127
    go_wp2_with (go_at_call 139; refine (unhide HX).mono ?_; rintro r w1 ⟨rfl, hb1⟩)
    refine bodyPost_ret (v := .tuple #[.int .i64 2, .bool (fitB 2 l)]) (by simp [results, Tryz.results127, go_sem]) rfl ⟨rfl, hb1⟩
  have n18 : (op == 18) = false := by simpa using h18
  by_cases hcmp : 12 ≤ op ∧ op ≤ 17
  · have hd : (decide (12 ≤ op) && decide (op ≤ 17)) = true := by simp; omega
    have hk : kOf op l = (1, (comm (l.getD 0 0) (l.getD 1 0)).2) := by unfold kOf; rw [n5, n6, n18, hd]; rfl
    have hl2 : l.length = 2 := by
      have : arI op = 2 := by
        unfold arI
        rw [if_neg (by simp; omega), if_neg (by simp; omega), if_neg (by simp; omega), if_pos (by simp; omega)]
      omega
    rw [hk]
    match l, hl2 with
    | [p, q], _ =>
      obtain ⟨vb, vo, rfl, d0⟩ := ha.get (k := 0) (x := p) rfl
      obtain ⟨vb', vo', ea, d1⟩ := ha.get (k := 1) (x := q) rfl
      simp only [Option.some.injEq, Addr.mk.injEq, and_true] at ea
      obtain ⟨rfl, rfl⟩ := ea
      have HX := hide (fun W => unhide HCM p q W)
      simp only [List.getD_cons_zero, List.getD_cons_succ]
      obtain ⟨R, hR⟩ : ∃ R, R = comm p q := ⟨_, rfl⟩
      rw [← hR] at HX ⊢
      obtain ⟨c1, c2⟩ := R
      rw [Nat.add_zero] at d0
      have k0 := cell_regrown d0
      have k1 := cell_regrown d1
      have hc1 := hcmp.1
      have hc2 := hcmp.2
      simp only at HX
      clear HF1 HCM ha hk hl2 hR hd hl hll hcmp
      rw [List.length_cons, List.length_cons, List.length_nil]
      go_enter Tryz.func127, Tryz.ntmps127
      go_upto_region 8 with fail
      refine wp_region_quiet_below (by kernel_rfl) (by kernel_rfl) ?_
      repeat (go_big_quiet_step ((go_at_call 140; exact Calls.regrown_of (unhide HX _))))
      refine wpQuiet_nil ?_
      intro w' hw'
      have hB : Below w.heap.size w w' := by obtain ⟨p, rfl⟩ := hw'; exact below_regrown _ _ _
      clear hw' k0 k1 d0 d1
      go_wp2
      refine bodyPost_ret (v := .tuple #[.int .i64 1, .bool c2]) (by simp [results, Tryz.results127, go_sem]) rfl ⟨rfl, hB⟩
  have hd : (decide (12 ≤ op) && decide (op ≤ 17)) = false := by
    by_cases h : (decide (12 ≤ op) && decide (op ≤ 17)) = true
    · simp at h; exact absurd h hcmp
    · simpa using h
  have hcd : op < 12 ∨ 17 < op := by omega
  by_cases h21 : op = 21
  · subst h21
    have hk : kOf 21 l = ((comm (l.getD 1 0) (l.getD 2 0)).1, (comm (l.getD 1 0) (l.getD 2 0)).2 && fitB 1 (l.take 1)) := rfl
    have hl3 : l.length = 3 := by have : arI 21 = 3 := by decide
                                  omega
    rw [hk]
    match l, hl3 with
    | [p, q, r], _ =>
      obtain ⟨vb, vo, rfl, d0⟩ := ha.get (k := 1) (x := q) rfl
      obtain ⟨vb', vo', ea, d1⟩ := ha.get (k := 2) (x := r) rfl
      simp only [Option.some.injEq, Addr.mk.injEq, and_true] at ea
      obtain ⟨rfl, rfl⟩ := ea
      have hp1 : IntsAt w (some ⟨vb, vo, none⟩) [p] := by
        obtain ⟨vb', vo', ea, d2⟩ := ha.get (k := 0) (x := p) rfl
        simp only [Option.some.injEq, Addr.mk.injEq, and_true] at ea
        obtain ⟨rfl, rfl⟩ := ea
        refine .inr ⟨vb, vo, rfl, fun i x hx => ?_⟩
        match i, hx with
        | 0, hx => simp at hx; subst hx; exact d2
      have HF := hide (fun W (hW : Below w.heap.size w W) => fit_any 1 (some ⟨vb, vo, none⟩) c [p] W (by simp) (hp1.later hW))
      have HX := hide (fun W => unhide HCM q r W)
      simp only [List.getD_cons_zero, List.getD_cons_succ, List.take_succ_cons, List.take_zero]
      obtain ⟨R, hR⟩ : ∃ R, R = comm q r := ⟨_, rfl⟩
      rw [← hR] at HX ⊢
      obtain ⟨c1, c2⟩ := R
      have k0 := cell_regrown d0
      have k1 := cell_regrown d1
      simp only at HX
      have hcc : (1 : Int) ≤ (c : Int) := by simp at hlc; omega
      clear HF1 HCM ha hk hl3 hR hl hll hp1 hcd hd hcmp
      rw [List.length_cons, List.length_cons, List.length_cons, List.length_nil]
      rw [List.length_cons, List.length_nil] at HF
      cases c2 with
      | false =>
        simp only [Bool.false_and]
        go_enter Tryz.func127, Tryz.ntmps127
        go_upto_region 11 with fail
        refine wp_region_quiet_below (by kernel_rfl) (by kernel_rfl) ?_
        repeat (go_big_quiet_step ((go_at_call 140; exact Calls.regrown_of (unhide HX _))))
        refine wpQuiet_nil ?_
        intro w' hw'
        have hB : Below w.heap.size w w' := by obtain ⟨p, rfl⟩ := hw'; exact below_regrown _ _ _
        clear hw' k0 k1 d0 d1
        go_wp2
        refine bodyPost_ret (v := .tuple #[.int .i64 c1, .bool false]) (by simp [results, Tryz.results127, go_sem]) rfl ⟨rfl, hB⟩
      | true =>
        simp only [Bool.true_and]
        go_enter Tryz.func127, Tryz.ntmps127
        go_upto_region 11 with fail
        refine wp_region_quiet_below (by kernel_rfl) (by kernel_rfl) ?_
        repeat (go_big_quiet_step ((go_at_call 140; exact Calls.regrown_of (unhide HX _))))
        refine wpQuiet_nil ?_
        intro w' hw'
        have hB : Below w.heap.size w w' := by obtain ⟨p, rfl⟩ := hw'; exact below_regrown _ _ _
        clear hw' k0 k1 d0 d1
        have HX2 := hide (unhide HF w' hB)
        go_wp2_with (go_at_call 139; refine (unhide HX2).mono ?_; rintro r w1 ⟨rfl, hb1⟩)
        refine bodyPost_ret (v := .tuple #[.int .i64 c1, .bool (fitB 1 [p])]) (by simp [results, Tryz.results127, go_sem]) rfl ⟨rfl, below_step hB hb1⟩
  have n21 : (op == 21) = false := by simpa using h21
  have hk : kOf op l = (1, fitB 1 l) := by unfold kOf; rw [n5, n6, n18, hd, n21]; rfl
  rw [hk]
  have HX := hide (unhide HF1 1 w (Below.refl _ _))
  clear HF1 HCM ha hk hd hcmp hl
  rcases hcd with hcd | hcd
  · have hcd2 : ¬ 12 ≤ op := by omega
    go_enter Tryz.func127, Tryz.ntmps127
    go_wp2_with (go_at_call 139; refine (unhide HX).mono ?_; rintro r w1 ⟨rfl, hb1⟩)
    refine bodyPost_ret (v := .tuple #[.int .i64 1, .bool (fitB 1 l)]) (by simp [results, Tryz.results127, go_sem]) rfl ⟨rfl, hb1⟩
  · have hcd2 : ¬ op ≤ 17 := by omega
    have hcd3 : 12 ≤ op := by omega
    go_enter Tryz.func127, Tryz.ntmps127
    go_wp2_with (go_at_call 139; refine (unhide HX).mono ?_; rintro r w1 ⟨rfl, hb1⟩)
    refine bodyPost_ret (v := .tuple #[.int .i64 1, .bool (fitB 1 l)]) (by simp [results, Tryz.results127, go_sem]) rfl ⟨rfl, hb1⟩
end Go.Proofs.YtcpndojkfngioaaGreat
