import Derived.Test.YthbfomcmjjnikaaGreatRyB
import Derived.Test.YthbfomcmjjnikaaGreatPackVa
import Derived.Test.YthbfomcmjjnikaaGreatPackF
import Derived.Test.YthbfomcmjjnikaaGreatPackU
set_option linter.unusedSimpArgs false
set_option linter.unusedVariables false
namespace Go.Proofs.YthbfomcmjjnikaaGreat
open Go.RowKit Go.Sort

/-- Number j, as far as k bits are read. -/
def partN (T d k j : Nat) : Nat := T / 2 ^ (d * j) % 2 ^ min d (k - d * j)
theorem part_zero (T d j : Nat) : partN T d 0 j = 0 := by simp [partN, Nat.mod_one]
theorem part_end {T d n j : Nat} (h : j < n) : partN T d (n * d) j = numAt T d j := by
  unfold partN numAt
  have : d * j + d ≤ n * d := by rw [Nat.mul_comm d j, ← Nat.succ_mul]; exact Nat.mul_le_mul_right d h
  rw [Nat.min_eq_left (by omega)]
theorem part_at {T d k q r : Nat} (hk : k = d * q + r) (hr : r < d) : partN T d k q = T / 2 ^ (d * q) % 2 ^ r := by
  unfold partN
  rw [Nat.min_eq_right (by omega)]
  congr 2; omega
theorem part_next {T d k q r : Nat} (hk : k = d * q + r) (hr : r < d) : partN T d (k + 1) q = T / 2 ^ (d * q) % 2 ^ r + T / 2 ^ k % 2 * 2 ^ r := by
  unfold partN
  rw [Nat.min_eq_right (by omega)]
  have e : k + 1 - d * q = r + 1 := by omega
  rw [e, Nat.pow_succ, Nat.mod_mul, hk, Nat.pow_add, ← Nat.div_div_eq_div_mul, Nat.mul_comm (2 ^ r)]
theorem part_other {T d k q r j : Nat} (hk : k = d * q + r) (hr : r < d) (hj : j ≠ q) : partN T d (k + 1) j = partN T d k j := by
  unfold partN
  rcases Nat.lt_or_gt_of_ne hj with h | h
  · have : d * j + d ≤ d * q := by rw [← Nat.mul_succ]; exact Nat.mul_le_mul_left d h
    rw [Nat.min_eq_left (by omega), Nat.min_eq_left (by omega)]
  · have : d * q + d ≤ d * j := by rw [← Nat.mul_succ]; exact Nat.mul_le_mul_left d h
    have e1 : k + 1 - d * j = 0 := by omega
    have e2 : k - d * j = 0 := by omega
    rw [e1, e2]
theorem bit_byte (T k : Nat) : T / 256 ^ (k / 8) % 256 / 2 ^ (k % 8) % 2 = T / 2 ^ k % 2 := by
  have e : k = 8 * (k / 8) + k % 8 := by omega
  have h8 : k % 8 < 8 := by omega
  have e2 : (256 : Nat) ^ (k / 8) = 2 ^ (8 * (k / 8)) := by rw [Nat.pow_mul]
  conv => rhs; rw [e, Nat.pow_add, ← Nat.div_div_eq_div_mul, ← e2]
  generalize T / 256 ^ (k / 8) = A
  generalize k % 8 = s at *
  have h9 : s = 0 ∨ s = 1 ∨ s = 2 ∨ s = 3 ∨ s = 4 ∨ s = 5 ∨ s = 6 ∨ s = 7 := by omega
  rcases h9 with rfl | rfl | rfl | rfl | rfl | rfl | rfl | rfl <;> omega
abbrev S2 (w : World) (g q X : Nat) : Prop := w.cell? ⟨g, q, none⟩ = some (.int .u64 (X : Int)) ∧ w.frozen? ⟨g, q, none⟩ = false
set_option maxHeartbeats 2000000 in
set_option maxRecDepth 100000 in
theorem brbits_yes {b n d : Nat} {l t r : List UInt8} {bad : Bool} {w : World} (hn : n ≤ 4096) (hd : d ≤ 64) (h : Br w b l bad) (hl : l.length ≤ 140737488355328) (ht : takeR l bad (bytesN n d) = (t, r, false)) (htl : t.length = bytesN n d) :
    Calls Tryz.prog 66 #[.pointer (some ⟨b, 0, none⟩), .int .i64 n, .int .i64 d] w fun e w' => ∃ g, e = .returned (.slice (some ⟨g, 0, none⟩) n n) ∧ w'.rowIs g 73 n (fun j => .int .u64 (numAt (leV t) d j : Nat)) ∧ w.heap.size ≤ g ∧ Br w' b r false ∧ Gr w w' b := by
  obtain ⟨i6, hi6, z60, z61, z62⟩ := info_parts Tryz.info73
  have hN : n * d ≤ 4096 * 64 := Nat.mul_le_mul hn hd
  obtain ⟨N, hNe⟩ : ∃ N, N = n * d := ⟨_, rfl⟩
  have e1 : (n : Int) * (d : Int) = (N : Int) := by rw [hNe, Int.natCast_mul]
  obtain ⟨B, hB⟩ : ∃ B, B = bytesN n d := ⟨_, rfl⟩
  have hBb : B = (N + 7) / 8 := by rw [hB, hNe]; rfl
  have e2 : ((N : Int) + 7) / 8 = (B : Int) := by omega
  have e2' : ((N : Int) + 7).tdiv 8 = (B : Int) := by rw [Int.tdiv_eq_ediv_of_nonneg (by omega)]; exact e2
  rw [← hNe] at hN
  have hN2 : (N : Int) ≤ 262144 := by omega
  have hB9 : B ≤ 1000000000 := by omega
  rw [← hB] at ht
  have HT := hide (rtake_to h hl hB9 ht)
  have hB8 : (B : Int) ≤ 40000 := by omega
  have hbw := h.ne
  have HNE := hide hNe
  have HTL : Hid (t.length = B) := by rw [hB]; exact htl
  have HBB := hide hBb
  clear h ht htl hB hNe hN hBb
  go_enter Tryz.func66, Tryz.ntmps66
  go_wp2_with (first
    | (go_at_call 39; refine (unhide HT).mono ?_; rintro e w1 ⟨rfl, hr1, hg1⟩)
    | (at_make; refine wpList_make_row _ rfl (.tmp 17) (.tmp 17) 113 rfl 73 i6 (.int .u64 0) Tryz.underlying113 hi6 z60 z61 rfl .i64 .i64 n rfl rfl (by rw [z62]; omega) (by omega) ?_))
  have hz1 := hg1.size
  obtain ⟨g, hg⟩ : ∃ g, g = w1.heap.size := ⟨_, rfl⟩
  have hbg : b ≠ g := by omega
  have hgw : w.heap.size ≤ g := by omega
  have HR1 : Hid (Br (w1.alloc (.cells (madeCells #[.int .u64 0] n) 73)) b r false) := hr1.alloc _
  have HG1 : Hid (Gr w (w1.alloc (.cells (madeCells #[.int .u64 0] n) 73)) b) := hg1.trans (Gr.alloc _ _ _)
  have HO1 : Hid ((w1.alloc (.cells (madeCells #[.int .u64 0] n) 73)).rowIs g 73 n (fun j => .int .u64 (partN (leV t) d 0 j : Nat))) := by
    rw [hg]
    exact (World.rowIs_made w1 (.int .u64 0) n 73).congr fun j hj => by simp [part_zero]
  rw [← hg]
  clear hr1 hg1 hg hz1
  go_loopw [9] (fun i wr => ∃ k : Nat, k ≤ N ∧ i = .int .i64 (k : Int) ∧ wr.rowIs g 73 n (fun j => .int .u64 (partN (leV t) d k j : Nat)) ∧ Br wr b r false ∧ Gr w wr b) (fun i _ => N - (intOf i).toNat)
  case atStart => exact ⟨0, Nat.zero_le _, rfl, unhide HO1, unhide HR1, unhide HG1⟩
  case round =>
    obtain ⟨k, hk, rfl, ho, hr, hgr⟩ := hrel
    obtain ⟨c0, c1, f0, f1⟩ := hr.facts
    by_cases hlt : k < N
    · have h9 : (k : Int) < (N : Int) := by omega
      have hd0 : 0 < d := by
        rcases Nat.eq_zero_or_pos d with h0 | h0
        · rw [unhide HNE, h0, Nat.mul_zero] at hlt; omega
        · exact h0
      obtain ⟨q, hq⟩ : ∃ q, q = k / d := ⟨_, rfl⟩
      obtain ⟨rr, hrr⟩ : ∃ rr, rr = k % d := ⟨_, rfl⟩
      have hkq : k = d * q + rr := by rw [hq, hrr]; exact (Nat.div_add_mod k d).symm
      have hrd : rr < d := by rw [hrr]; exact Nat.mod_lt _ hd0
      have hqn : q < n := by rw [hq]; exact Nat.div_lt_of_lt_mul (by rw [Nat.mul_comm, ← unhide HNE]; exact hlt)
      obtain ⟨X, hX⟩ : ∃ X, X = partN (leV t) d k q := ⟨_, rfl⟩
      obtain ⟨p, hp⟩ : ∃ p, p = k / 8 := ⟨_, rfl⟩
      obtain ⟨s, hs⟩ : ∃ s, s = k % 8 := ⟨_, rfl⟩
      have hpt : p < t.length := by rw [unhide HTL, unhide HBB]; omega
      obtain ⟨Y, hY, hix⟩ : ∃ Y : Nat, Y = leV t / 256 ^ p % 256 ∧ ∀ W, (Instr.index 9 (.string (bs t)) (.int .i64 (p : Int))).run Tryz.prog W = .ok (.int .u8 (Y : Int)) W := ⟨_, rfl, idx_bs t p hpt⟩
      have hY2 : Y < 256 := by rw [hY]; exact Nat.mod_lt _ (by decide)
      obtain ⟨Z, hZ⟩ : ∃ Z, Z = Y / 2 ^ s % 2 := ⟨_, rfl⟩
      have hZ2 : Z = leV t / 2 ^ k % 2 := by rw [hZ, hY, hp, hs]; exact bit_byte _ _
      have hZb : Z < 2 := by rw [hZ]; exact Nat.mod_lt _ (by decide)
      have hand : bits .and .u8 ((Y : Int) / 2 ^ s) 1 = (Z : Int) := by
        have := and_piece Y s 1 hY2 (by omega)
        rw [hZ]; simpa using this
      obtain ⟨V, hV⟩ : ∃ V, V = Z * 2 ^ rr := ⟨_, rfl⟩
      have hX2 : X < 2 ^ rr := by rw [hX, part_at hkq hrd]; exact Nat.mod_lt _ (Nat.two_pow_pos rr)
      have h64 : 2 ^ (rr + 1) ≤ 2 ^ 64 := Nat.pow_le_pow_right (by decide) (by omega)
      have h64' : (2 : Nat) ^ 64 = 18446744073709551616 := by decide
      rw [Nat.pow_succ] at h64
      have hVb : V ≤ 2 ^ rr := by rw [hV]; exact Nat.le_trans (Nat.mul_le_mul_right _ (by omega : Z ≤ 1)) (by omega)
      have hVi : (Z : Int) * 2 ^ rr = (V : Int) := by rw [hV, Int.natCast_mul, Int.natCast_pow]; rfl
      have hVw : IntKind.u64.wrap ((Z : Int) * 2 ^ rr) = (V : Int) := by rw [hVi, IntKind.wrap_u64]; omega
      obtain ⟨U, hU⟩ : ∃ U, U = partN (leV t) d (k + 1) q := ⟨_, rfl⟩
      have hor : bits .or .u64 (X : Int) (V : Int) = (U : Int) := by
        rw [or_u64 _ _ (by omega) (by omega), hV, or_add2 hX2, hU, part_next hkq hrd, hX, part_at hkq hrd, hZ2]
      have f3 : (k : Int).tdiv (d : Int) = (q : Int) := by rw [Int.tdiv_eq_ediv_of_nonneg (by omega), hq, Int.natCast_ediv]
      have f3' : (k : Int) / (d : Int) = (q : Int) := by rw [hq, Int.natCast_ediv]
      have f17 : (k : Int).tmod (d : Int) = (rr : Int) := by rw [Int.tmod_eq_emod_of_nonneg (by omega), hrr, Int.natCast_emod]
      have f17' : (k : Int) % (d : Int) = (rr : Int) := by rw [hrr, Int.natCast_emod]
      have f8 : (k : Int) / 8 = (p : Int) := by omega
      have f11 : (k : Int) % 8 = (s : Int) := by omega
      have f8' : (k : Int).tdiv 8 = (p : Int) := by rw [Int.tdiv_eq_ediv_of_nonneg (by omega)]; exact f8
      have f11' : (k : Int).tmod 8 = (s : Int) := by rw [Int.tmod_eq_emod_of_nonneg (by omega)]; exact f11
      have g3 : ((d : Int) == 0) = false := by simp; omega
      have hdn : ¬ (d : Int) = 0 := by omega
      have hqi : (q : Int) < (n : Int) := by omega
      have hdz : ¬ d = 0 := by omega
      have hqw : IntKind.i64.wrap (q : Int) = (q : Int) := by rw [IntKind.wrap_i64]; omega
      have hpw : IntKind.i64.wrap (p : Int) = (p : Int) := by rw [IntKind.wrap_i64]; omega
      have hZw : IntKind.u64.wrap (Z : Int) = (Z : Int) := by rw [IntKind.wrap_u64]; omega
      have hVw2 : IntKind.u64.wrap (V : Int) = (V : Int) := by rw [IntKind.wrap_u64]; omega
      have hs8 : (s : Int) < 8 := by omega
      have hrr64 : (rr : Int) < 64 := by omega
      have S0 : S2 wr.drew g q X := ⟨by rw [hX]; exact World.rowIs.cell ho hqn, World.rowIs.frozen ho q⟩
      have HO := hide ho
      have HR := hide hr
      have HGR := hide hgr
      have HP : Hid (∀ j, j < n → (Value.int .u64 (partN (leV t) d (k + 1) j : Nat) : Value) = if j = q then .int .u64 (U : Int) else .int .u64 (partN (leV t) d k j : Nat)) := fun j hj => by
        by_cases e : j = q
        · rw [if_pos e, e, hU]
        · rw [if_neg e, part_other hkq hrd e]
      clear ho hr hgr hX hY hZ hZ2 hU hV hkq hq hrr hp hs h64 h64' hX2 hVb hpt
      go_wp2_with fail
      refine wp_region_noPanic ?_
      refine wp_region_G (S := fun w' : World => S2 w' g q X) (k := 21) (by kernel_rfl) ?_
      refine anyG_takel (i := 0) (v := (.slice (some ⟨g, 0, none⟩) n n)) [4, 5, 19, 20, 21] rfl (by kernel_rfl) (by kernel_rfl) (by kernel_rfl) (by kernel_rfl) (fun _ _ _ h => h) (Or.inl ⟨by rfl, fun w' hSw => ?_⟩) S0 ?_
      · dsimp only at hSw; obtain ⟨q0, q1⟩ := hSw; go_simp
      try simp only [Act.put, List.setIfInBounds_toArray, List.set_cons_zero, List.set_cons_succ]
      refine anyG_takel (i := 1) (v := (.int .i64 (k : Int))) [3, 4, 5, 19, 20, 21] rfl (by kernel_rfl) (by kernel_rfl) (by kernel_rfl) (by kernel_rfl) (fun _ _ _ h => h) (Or.inl ⟨by rfl, fun w' hSw => ?_⟩) S0 ?_
      · dsimp only at hSw; obtain ⟨q0, q1⟩ := hSw; go_simp
      try simp only [Act.put, List.setIfInBounds_toArray, List.set_cons_zero, List.set_cons_succ]
      refine anyG_takel (i := 2) (v := (.int .i64 (d : Int))) [3, 4, 5, 19, 20, 21] rfl (by kernel_rfl) (by kernel_rfl) (by kernel_rfl) (by kernel_rfl) (fun _ _ _ h => h) (Or.inl ⟨by rfl, fun w' hSw => ?_⟩) S0 ?_
      · dsimp only at hSw; obtain ⟨q0, q1⟩ := hSw; go_simp
      try simp only [Act.put, List.setIfInBounds_toArray, List.set_cons_zero, List.set_cons_succ]
      refine anyG_takel (i := 3) (v := (.int .i64 (q : Int))) [4, 5, 19, 20, 21] rfl (by kernel_rfl) (by kernel_rfl) (by kernel_rfl) (by kernel_rfl) (fun _ _ _ h => h) (Or.inl ⟨by rfl, fun w' hSw => ?_⟩) S0 ?_
      · dsimp only at hSw; obtain ⟨q0, q1⟩ := hSw; go_simp
      try simp only [Act.put, List.setIfInBounds_toArray, List.set_cons_zero, List.set_cons_succ]
      refine anyG_takel (i := 4) (v := (.pointer (some ⟨g, q, none⟩))) [5, 19, 21] rfl (by kernel_rfl) (by kernel_rfl) (by kernel_rfl) (by kernel_rfl) (fun _ _ _ h => h) (Or.inl ⟨by rfl, fun w' hSw => ?_⟩) S0 ?_
      · dsimp only at hSw; obtain ⟨q0, q1⟩ := hSw; go_simp
      try simp only [Act.put, List.setIfInBounds_toArray, List.set_cons_zero, List.set_cons_succ]
      refine anyG_takel (i := 5) (v := (.int .u64 (X : Int))) [19, 21] rfl (by kernel_rfl) (by kernel_rfl) (by kernel_rfl) (by kernel_rfl) (fun _ _ _ h => h) (Or.inl ⟨by rfl, fun w' hSw => ?_⟩) S0 ?_
      · dsimp only at hSw; obtain ⟨q0, q1⟩ := hSw; go_simp
      try simp only [Act.put, List.setIfInBounds_toArray, List.set_cons_zero, List.set_cons_succ]
      refine anyG_takel (i := 6) (v := (.string (bs t))) [9, 12, 13, 14, 18, 19, 21] rfl (by kernel_rfl) (by kernel_rfl) (by kernel_rfl) (by kernel_rfl) (fun _ _ _ h => h) (Or.inl ⟨by rfl, fun w' hSw => ?_⟩) S0 ?_
      · dsimp only at hSw; obtain ⟨q0, q1⟩ := hSw; go_simp
      try simp only [Act.put, List.setIfInBounds_toArray, List.set_cons_zero, List.set_cons_succ]
      refine anyG_takel (i := 7) (v := (.int .i64 (k : Int))) [8, 9, 12, 13, 14, 18, 19, 21] rfl (by kernel_rfl) (by kernel_rfl) (by kernel_rfl) (by kernel_rfl) (fun _ _ _ h => h) (Or.inl ⟨by rfl, fun w' hSw => ?_⟩) S0 ?_
      · dsimp only at hSw; obtain ⟨q0, q1⟩ := hSw; go_simp
      try simp only [Act.put, List.setIfInBounds_toArray, List.set_cons_zero, List.set_cons_succ]
      refine anyG_takel (i := 8) (v := (.int .i64 (p : Int))) [9, 12, 13, 14, 18, 19, 21] rfl (by kernel_rfl) (by kernel_rfl) (by kernel_rfl) (by kernel_rfl) (fun _ _ _ h => h) (Or.inl ⟨by rfl, fun w' hSw => ?_⟩) S0 ?_
      · dsimp only at hSw; obtain ⟨q0, q1⟩ := hSw; go_simp
      try simp only [Act.put, List.setIfInBounds_toArray, List.set_cons_zero, List.set_cons_succ]
      refine anyG_takel (i := 9) (v := (.int .u8 (Y : Int))) [12, 13, 14, 18, 19, 21] rfl (by kernel_rfl) (by kernel_rfl) (by kernel_rfl) (by kernel_rfl) (fun _ _ _ h => h) (Or.inl ⟨by rfl, fun w' hSw => ?_⟩) S0 ?_
      · dsimp only at hSw; obtain ⟨q0, q1⟩ := hSw; go_simp
      try simp only [Act.put, List.setIfInBounds_toArray, List.set_cons_zero, List.set_cons_succ]
      refine anyG_takel (i := 10) (v := (.int .i64 (k : Int))) [11, 12, 13, 14, 18, 19, 21] rfl (by kernel_rfl) (by kernel_rfl) (by kernel_rfl) (by kernel_rfl) (fun _ _ _ h => h) (Or.inl ⟨by rfl, fun w' hSw => ?_⟩) S0 ?_
      · dsimp only at hSw; obtain ⟨q0, q1⟩ := hSw; go_simp
      try simp only [Act.put, List.setIfInBounds_toArray, List.set_cons_zero, List.set_cons_succ]
      refine anyG_takel (i := 11) (v := (.int .i64 (s : Int))) [12, 13, 14, 18, 19, 21] rfl (by kernel_rfl) (by kernel_rfl) (by kernel_rfl) (by kernel_rfl) (fun _ _ _ h => h) (Or.inl ⟨by rfl, fun w' hSw => ?_⟩) S0 ?_
      · dsimp only at hSw; obtain ⟨q0, q1⟩ := hSw; go_simp
      try simp only [Act.put, List.setIfInBounds_toArray, List.set_cons_zero, List.set_cons_succ]
      refine anyG_takel (i := 12) (v := (.int .u8 ((Y : Int) / 2 ^ s))) [13, 14, 18, 19, 21] rfl (by kernel_rfl) (by kernel_rfl) (by kernel_rfl) (by kernel_rfl) (fun _ _ _ h => h) (Or.inl ⟨by rfl, fun w' hSw => ?_⟩) S0 ?_
      · dsimp only at hSw; obtain ⟨q0, q1⟩ := hSw; go_simp
      try simp only [Act.put, List.setIfInBounds_toArray, List.set_cons_zero, List.set_cons_succ]
      refine anyG_takel (i := 13) (v := (.int .u8 (Z : Int))) [14, 18, 19, 21] rfl (by kernel_rfl) (by kernel_rfl) (by kernel_rfl) (by kernel_rfl) (fun _ _ _ h => h) (Or.inl ⟨by rfl, fun w' hSw => ?_⟩) S0 ?_
      · dsimp only at hSw; obtain ⟨q0, q1⟩ := hSw; go_simp
      try simp only [Act.put, List.setIfInBounds_toArray, List.set_cons_zero, List.set_cons_succ]
      refine anyG_takel (i := 14) (v := (.int .u64 (Z : Int))) [18, 19, 21] rfl (by kernel_rfl) (by kernel_rfl) (by kernel_rfl) (by kernel_rfl) (fun _ _ _ h => h) (Or.inl ⟨by rfl, fun w' hSw => ?_⟩) S0 ?_
      · dsimp only at hSw; obtain ⟨q0, q1⟩ := hSw; go_simp
      try simp only [Act.put, List.setIfInBounds_toArray, List.set_cons_zero, List.set_cons_succ]
      refine anyG_takel (i := 15) (v := (.int .i64 (k : Int))) [17, 18, 19, 21] rfl (by kernel_rfl) (by kernel_rfl) (by kernel_rfl) (by kernel_rfl) (fun _ _ _ h => h) (Or.inl ⟨by rfl, fun w' hSw => ?_⟩) S0 ?_
      · dsimp only at hSw; obtain ⟨q0, q1⟩ := hSw; go_simp
      try simp only [Act.put, List.setIfInBounds_toArray, List.set_cons_zero, List.set_cons_succ]
      refine anyG_takel (i := 16) (v := (.int .i64 (d : Int))) [17, 18, 19, 21] rfl (by kernel_rfl) (by kernel_rfl) (by kernel_rfl) (by kernel_rfl) (fun _ _ _ h => h) (Or.inl ⟨by rfl, fun w' hSw => ?_⟩) S0 ?_
      · dsimp only at hSw; obtain ⟨q0, q1⟩ := hSw; go_simp
      try simp only [Act.put, List.setIfInBounds_toArray, List.set_cons_zero, List.set_cons_succ]
      refine anyG_takel (i := 17) (v := (.int .i64 (rr : Int))) [18, 19, 21] rfl (by kernel_rfl) (by kernel_rfl) (by kernel_rfl) (by kernel_rfl) (fun _ _ _ h => h) (Or.inl ⟨by rfl, fun w' hSw => ?_⟩) S0 ?_
      · dsimp only at hSw; obtain ⟨q0, q1⟩ := hSw; go_simp
      try simp only [Act.put, List.setIfInBounds_toArray, List.set_cons_zero, List.set_cons_succ]
      refine anyG_takel (i := 18) (v := (.int .u64 (V : Int))) [19, 21] rfl (by kernel_rfl) (by kernel_rfl) (by kernel_rfl) (by kernel_rfl) (fun _ _ _ h => h) (Or.inl ⟨by rfl, fun w' hSw => ?_⟩) S0 ?_
      · dsimp only at hSw; obtain ⟨q0, q1⟩ := hSw; go_simp
      try simp only [Act.put, List.setIfInBounds_toArray, List.set_cons_zero, List.set_cons_succ]
      refine anyG_takel (i := 19) (v := (.int .u64 (U : Int))) [21] rfl (by kernel_rfl) (by kernel_rfl) (by kernel_rfl) (by kernel_rfl) (fun _ _ _ h => h) (Or.inl ⟨by rfl, fun w' hSw => ?_⟩) S0 ?_
      · dsimp only at hSw; obtain ⟨q0, q1⟩ := hSw; go_simp
      try simp only [Act.put, List.setIfInBounds_toArray, List.set_cons_zero, List.set_cons_succ]
      refine anyG_takel (i := 20) (v := (.pointer (some ⟨g, q, none⟩))) [21] rfl (by kernel_rfl) (by kernel_rfl) (by kernel_rfl) (by kernel_rfl) (fun _ _ _ h => h) (Or.inl ⟨by rfl, fun w' hSw => ?_⟩) S0 ?_
      · dsimp only at hSw; obtain ⟨q0, q1⟩ := hSw; go_simp
      try simp only [Act.put, List.setIfInBounds_toArray, List.set_cons_zero, List.set_cons_succ]
      obtain ⟨s0, s1⟩ := S0
      refine anyG_one (i := 21) (by kernel_rfl) ?_
      refine wpOp_lit rfl (by rfl) fun K hK => ?_
      go_simp
      refine unhide hK _ _ ⟨fun h => absurd h (by simp), ?_⟩
      refine anyG_done (by kernel_rfl) ?_ _
      refine NoPanic.normal ?_
      clear hK K s0 s1
      go_wp2
      refine ⟨⟨k + 1, by omega, by go_num, ?_, ?_, ?_⟩, by simp [intOf]; omega⟩
      · exact World.rowIs.congr (World.rowIs.set (unhide HO) q (.int .u64 (U : Int))) fun j hj => by
          rw [unhide HP j hj]
      · exact World.rowIs.setOther (unhide HR) hbg _
      · exact ((unhide HGR).fresh (grown_set wr g q _) hgw).trans (Gr.of_below (Below.refl _ _).drew b)
    · have ek : k = N := by omega
      subst ek
      have h9 : ¬ (k : Int) < (k : Int) := by omega
      have HE : Hid (wr.rowIs g 73 n (fun j => .int .u64 (numAt (leV t) d j : Nat)) ∧ Br wr b r false ∧ Gr w wr b) := ⟨World.rowIs.congr ho fun j hj => by rw [unhide HNE, part_end hj], hr, hgr⟩
      clear ho hr hgr
      go_wp2
      go_ret
      exact ⟨g, rfl, (unhide HE).1, hgw, (unhide HE).2⟩
set_option maxHeartbeats 1000000 in
set_option maxRecDepth 100000 in
theorem brbits_bad {b n d : Nat} {l t r : List UInt8} {bad : Bool} {w : World} (hn : n ≤ 4096) (hd : d ≤ 64) (h : Br w b l bad) (hl : l.length ≤ 140737488355328) (ht : takeR l bad (bytesN n d) = (t, r, true)) :
    Calls Tryz.prog 66 #[.pointer (some ⟨b, 0, none⟩), .int .i64 n, .int .i64 d] w fun e w' => ∃ g, e = .returned (.slice (some ⟨g, 0, none⟩) n n) ∧ w'.rowIs g 73 n (fun j => .int .u64 0) ∧ w.heap.size ≤ g ∧ Br w' b r true ∧ Gr w w' b := by
  obtain ⟨i6, hi6, z60, z61, z62⟩ := info_parts Tryz.info73
  have hN : n * d ≤ 4096 * 64 := Nat.mul_le_mul hn hd
  obtain ⟨N, hNe⟩ : ∃ N, N = n * d := ⟨_, rfl⟩
  have e1 : (n : Int) * (d : Int) = (N : Int) := by rw [hNe, Int.natCast_mul]
  obtain ⟨B, hB⟩ : ∃ B, B = bytesN n d := ⟨_, rfl⟩
  have hBb : B = (N + 7) / 8 := by rw [hB, hNe]; rfl
  have e2 : ((N : Int) + 7) / 8 = (B : Int) := by omega
  have e2' : ((N : Int) + 7).tdiv 8 = (B : Int) := by rw [Int.tdiv_eq_ediv_of_nonneg (by omega)]; exact e2
  rw [← hNe] at hN
  have hN2 : (N : Int) ≤ 262144 := by omega
  have hB9 : B ≤ 1000000000 := by omega
  rw [← hB] at ht
  have HT := hide (rtake_to h hl hB9 ht)
  have hB8 : (B : Int) ≤ 40000 := by omega
  have hbw := h.ne
  clear h ht hB hNe hN hBb
  go_enter Tryz.func66, Tryz.ntmps66
  go_wp2_with (first
    | (go_at_call 39; refine (unhide HT).mono ?_; rintro e w1 ⟨rfl, hr1, hg1⟩)
    | (at_make; refine wpList_make_row _ rfl (.tmp 17) (.tmp 17) 113 rfl 73 i6 (.int .u64 0) Tryz.underlying113 hi6 z60 z61 rfl .i64 .i64 n rfl rfl (by rw [z62]; omega) (by omega) ?_))
  have hz1 := hg1.size
  obtain ⟨g, hg⟩ : ∃ g, g = w1.heap.size := ⟨_, rfl⟩
  have hbg : b ≠ g := by omega
  have hgw : w.heap.size ≤ g := by omega
  have HR1 : Hid (Br (w1.alloc (.cells (madeCells #[.int .u64 0] n) 73)) b r true) := hr1.alloc _
  have HG1 : Hid (Gr w (w1.alloc (.cells (madeCells #[.int .u64 0] n) 73)) b) := hg1.trans (Gr.alloc _ _ _)
  have HO1 : Hid ((w1.alloc (.cells (madeCells #[.int .u64 0] n) 73)).rowIs g 73 n (fun j => .int .u64 0)) := by
    rw [hg]
    exact World.rowIs_made w1 (.int .u64 0) n 73
  rw [← hg]
  clear hr1 hg1 hg hz1
  go_loopw [9] (fun i wr => i = .int .i64 (0 : Int) ∧ wr.rowIs g 73 n (fun j => .int .u64 0) ∧ Br wr b r true ∧ Gr w wr b) (fun i _ => 0)
  case atStart => exact ⟨rfl, unhide HO1, unhide HR1, unhide HG1⟩
  case round =>
    obtain ⟨rfl, ho, hr, hgr⟩ := hrel
    obtain ⟨c0, c1, f0, f1⟩ := hr.facts
    have HE : Hid (wr.rowIs g 73 n (fun j => .int .u64 0) ∧ Br wr b r true ∧ Gr w wr b) := ⟨ho, hr, hgr⟩
    clear ho hr hgr
    by_cases h0 : 0 < N
    · have h9 : (0 : Int) < (N : Int) := by omega
      go_wp2
      go_ret
      exact ⟨g, rfl, (unhide HE).1, hgw, (unhide HE).2⟩
    · have h9 : ¬ (0 : Int) < (N : Int) := by omega
      go_wp2
      go_ret
      exact ⟨g, rfl, (unhide HE).1, hgw, (unhide HE).2⟩
end Go.Proofs.YthbfomcmjjnikaaGreat
set_option linter.unusedSimpArgs false
set_option linter.unusedVariables false
namespace Go.Proofs.YthbfomcmjjnikaaGreat
open Go.RowKit Go.Sort

/-- So many values, as long as the document's reader goes right. -/
def plainsR (kind : Int) (l : List UInt8) (bad : Bool) : Nat → List Val × List UInt8 × Bool
  | 0 => ([], l, bad)
  | k + 1 => if (plainsR kind l bad k).2.2 = true then plainsR kind l bad k else ((plainsR kind l bad k).1 ++ [(plainR kind (plainsR kind l bad k).2.1 false).1], (plainR kind (plainsR kind l bad k).2.1 false).2)
theorem plainsR_step {kind : Int} {l l2 : List UInt8} {bad : Bool} {k : Nat} {vs : List Val} (h : plainsR kind l bad k = (vs, l2, false)) : plainsR kind l bad (k + 1) = (vs ++ [(plainR kind l2 false).1], (plainR kind l2 false).2) := by
  rw [plainsR, h]; rfl
theorem plainsR_stuck {kind : Int} {l l2 : List UInt8} {bad : Bool} {k : Nat} {vs : List Val} (h : plainsR kind l bad k = (vs, l2, true)) : ∀ m, k ≤ m → plainsR kind l bad m = (vs, l2, true) := by
  intro m hm
  obtain ⟨j, rfl⟩ : ∃ j, m = k + j := ⟨m - k, by omega⟩
  clear hm
  induction j with
  | zero => exact h
  | succ j ih => rw [← Nat.add_assoc, plainsR, ih]; rfl
theorem plainR_len (kind : Int) (l : List UInt8) (bad : Bool) : (plainR kind l bad).2.1.length ≤ l.length := by
  unfold plainR
  split
  · exact (takeR_len l bad 8).2
  · exact Nat.le_trans (takeR_len _ _ _).2 (takeR_len l bad 2).2
theorem plainsR_len (kind : Int) (l : List UInt8) (bad : Bool) : ∀ k, (plainsR kind l bad k).1.length ≤ k ∧ (plainsR kind l bad k).2.1.length ≤ l.length
  | 0 => ⟨Nat.le_refl _, Nat.le_refl _⟩
  | k + 1 => by
    have ih := plainsR_len kind l bad k
    rw [plainsR]
    split
    · exact ⟨by omega, ih.2⟩
    · exact ⟨by simp; omega, Nat.le_trans (plainR_len _ _ _) ih.2⟩
theorem Br.app {wr w1 : World} {b B : Nat} {v : Value} {o : Obj} {xs : List Val} {l : List UInt8} {bad : Bool} (hr : Br wr b l bad) (ho : OwnV wr B v xs) (hb : b < B) (hg : (wr.alloc o).grownBy w1 v.ownBlock) : Br w1 b l bad := by
  refine World.rowIs.of_block (World.rowIs.alloc hr o) (hg.block b (by have := hr.ne; simp; omega) fun e => ?_)
  have := (World.ownsRow.lt ho b e.symm).1
  omega
/-- What standing ends with. -/
def StandR (w w' : World) (e : Ending) (b : Nat) (p : List Val × List UInt8 × Bool) : Prop := ∃ v, e = .returned v ∧ OwnV w' w.heap.size v p.1 ∧ Br w' b p.2.1 p.2.2 ∧ Gr w w' b
set_option maxHeartbeats 1000000 in
set_option maxRecDepth 100000 in
theorem stand1_any (b m : Nat) (kind : Int) (l : List UInt8) (bad : Bool) (w : World) (hk : kind = 1 ∨ kind = 2) (hm : m ≤ 4096) (h : Br w b l bad) (hl : l.length ≤ 140737488355328) :
    Calls Tryz.prog 67 #[.pointer (some ⟨b, 0, none⟩), .int .i64 1, .int .i64 kind, .int .i64 m] w fun e w' => StandR w w' e b (plainsR kind l bad m) := by
  obtain ⟨i4, hi4, z40, z41, z42⟩ := info_parts Tryz.info59
  have hb0 := h.ne
  obtain ⟨R, hR⟩ : ∃ R, R = plainsR kind l bad m := ⟨_, rfl⟩
  rw [← hR]
  have HRR := hide hR
  clear hR
  go_enter Tryz.func67, Tryz.ntmps67
  go_wp2_with fail
  go_loopw [9, 10] (fun v i wr => ∃ (k : Nat) (vs : List Val) (r : List UInt8) (x : Bool), k ≤ m ∧ i = .int .i64 (k : Int) ∧ Hid (plainsR kind l bad k = (vs, r, x)) ∧ OwnV wr w.heap.size v vs ∧ Br wr b r x ∧ Gr w wr b) (fun _ i _ => m - (intOf i).toNat)
  case atStart => exact ⟨0, [], l, bad, Nat.zero_le _, rfl, rfl, ⟨rfl, .inl ⟨rfl, rfl⟩⟩, h, Gr.refl _ _⟩
  case round =>
    obtain ⟨k, vs, r, x, hkm, rfl, HP, ho, hr, hg⟩ := hrel
    have hln := plainsR_len kind l bad k
    rw [unhide HP] at hln
    obtain ⟨hvl, hrl⟩ := hln
    replace hvl : vs.length ≤ k := hvl
    replace hrl : r.length ≤ l.length := hrl
    obtain ⟨c0, c1, f0, f1⟩ := hr.facts
    by_cases hlt : k < m
    · have h9 : (k : Int) < (m : Int) := by omega
      cases x with
      | true =>
        have HE : Hid (StandR w wr (.returned u9) b R) := ⟨u9, rfl, by rw [unhide HRR, plainsR_stuck (unhide HP) m (by omega)]; exact ⟨ho, hr, hg⟩⟩
        clear ho hr hg hvl hrl
        go_wp2
        go_ret
        exact unhide HE
      | false =>
        have HN := hide (plainsR_step (unhide HP))
        have HC := hide (rplain_any (bad := false) hk hr (by omega))
        have HG := hide hg
        have HO := hide ho
        have hsz := hg.size
        have HVL := hide hvl
        generalize hq : plainR kind r false = q at *
        obtain ⟨y, r2, x2⟩ := q
        have HNN : Hid (plainsR kind l bad (k + 1) = (vs ++ [y], r2, x2)) := by
          show _ = _
          exact unhide HN
        clear hg ho hr hvl hrl hq HN
        dsimp only at HC
        go_wp2_with (first
          | (go_at_call 90; refine (unhide HC).mono ?_; rintro e w2 ⟨rfl, hr2, hg2⟩; rw [Val.open_]; have ho2 := (unhide HO).gr hg2 hb0; have hG2 := (unhide HG).trans hg2; have hsz2 := hg2.size)
          | (at_builtin; refine wpList_append_own_at _ rfl (.tmp 38) (.tmp 42) 37 rfl w.heap.size 59 i4 (.agg #[.int .i64 0, .int .i64 0, .string ⟨#[]⟩]) 3 32 Tryz.underlying37 hi4 z40 z41 z42 rfl (by decide) _ _ _ rfl (World.ownsRow.alloc ho2 _) ⟨w2.heap.size, 0, none⟩ 1 1 (c3 y) rfl rfl (cells3_new w2 y) (c3_one _) (by have := unhide HVL; unfold maxLen; omega) (by have := unhide HVL; omega) (by simp; omega) ?_; intro v1 w3 hown1 hgrow1 _ hat1; have ho3 := ownV_app hown1))
        refine ⟨⟨k + 1, vs ++ [y], r2, x2, by omega, by go_num, HNN, ho3, hr2.app ho2 hb0 hgrow1, hG2.app ho2 hgrow1⟩, by simp [intOf]; omega⟩
    · have h9 : ¬ (k : Int) < (m : Int) := by omega
      have ek : k = m := by omega
      subst ek
      have HE : Hid (StandR w wr (.returned u9) b R) := ⟨u9, rfl, by rw [unhide HRR, unhide HP]; exact ⟨ho, hr, hg⟩⟩
      clear ho hr hg hvl hrl
      go_wp2
      go_ret
      exact unhide HE
theorem plainsR_of {kind : Int} : ∀ (n : Nat) {l r : List UInt8} {vs : List Val}, plainsD kind n l = some (vs, r) → plainsR kind l false n = (vs, r, false)
  | 0, l, r, vs, h => by
    unfold plainsD at h
    injection h with h; injection h with h1 h2
    subst h1; subst h2; rfl
  | n + 1, l, r, vs, h => by
    unfold plainsD at h
    cases hp : plainsD kind n l with
    | none => rw [hp] at h; cases h
    | some p =>
      obtain ⟨us, l1⟩ := p
      rw [hp, Option.bind_some] at h
      cases hq : plainD kind l1 with
      | none => rw [hq] at h; cases h
      | some q =>
        obtain ⟨x, r'⟩ := q
        rw [hq] at h
        injection h with h
        injection h with h1 h2
        subst h1; subst h2
        rw [plainsR_step (plainsR_of n hp), plainR_of hq]
end Go.Proofs.YthbfomcmjjnikaaGreat
