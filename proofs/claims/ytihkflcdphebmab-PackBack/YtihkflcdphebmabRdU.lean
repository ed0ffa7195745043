import Derived.Test.YtihkflcdphebmabRdS
set_option linter.unusedSimpArgs false
set_option linter.unusedVariables false
namespace Go.Proofs.Ytihkflcdphebmab
open Go.RowKit Go.Sort

/-- The places below k at which f holds. -/
def fT (f : Nat → Bool) (k : Nat) : List Nat := (List.range k).filter f
theorem fT_next (f : Nat → Bool) (k : Nat) : fT f (k + 1) = fT f k ++ (if f k then [k] else []) := by
  unfold fT
  rw [List.range_succ, List.filter_append]
  cases h : f k <;> simp [h]
theorem fT_pre (f : Nat → Bool) {k n : Nat} (h : k ≤ n) : ∃ r, fT f n = fT f k ++ r := by
  obtain ⟨j, rfl⟩ : ∃ j, n = k + j := ⟨n - k, by omega⟩
  clear h
  induction j with
  | zero => exact ⟨[], by simp⟩
  | succ j ih =>
    obtain ⟨r, hr⟩ := ih
    exact ⟨r ++ (if f (k + j) then [k + j] else []), by rw [← Nat.add_assoc, fT_next, hr, List.append_assoc]⟩
theorem fT_at {f : Nat → Bool} {k n : Nat} (h : k < n) (hf : f k = true) : (fT f n)[(fT f k).length]? = some k := by
  obtain ⟨r, hr⟩ := fT_pre f (k := k + 1) h
  rw [hr, fT_next, if_pos hf, List.append_assoc]
  simp
theorem fT_len (f : Nat → Bool) (k : Nat) : (fT f k).length ≤ k := by
  unfold fT
  exact Nat.le_trans (List.length_filter_le _ _) (by simp)
/-- Does a value compare so? -/
def hitB (op : Int) (y x : Val) : Bool := trueB (testV op x y)
def hitF (op : Int) (y : Val) (xs : List Val) (k : Nat) : Bool := hitB op y (xs.getD k .null)
theorem hitF_at {op : Int} {y x : Val} {xs : List Val} {k : Nat} (h : xs[k]? = some x) : hitF op y xs k = hitB op y x := by
  unfold hitF
  rw [List.getD_eq_getElem?_getD, h]; rfl
/-- An own row of numbers. -/
def OwnN (w : World) (base : Nat) (v : Value) (ns : List Nat) : Prop := w.ownsRow base 3 1 v ns.length (ns.map fun n : Nat => Value.int .i64 (n : Int))
theorem test_o (op : Int) (x y : Val) (w : World) : Calls Try.prog 53 #[.int .i64 op, .agg #[.int .i64 x.k, .int .i64 x.n, .string x.s], .agg #[.int .i64 y.k, .int .i64 y.n, .string y.s]] w fun e w' => e = .returned (testV op x y).v ∧ Below w.heap.size w w' := test_any op x y w
theorem Try.info3' : (Try.prog.info? 3).map (fun i => (i.zero, i.size, i.bytes)) = some (some (.int .i64 0), 1, 8) := by kernel_rfl
theorem ownN_app {w : World} {base : Nat} {v : Value} {ys : List Nat} {m : Nat} (h : w.ownsRow base 3 1 v (ys.length + 1) ((ys.map fun n : Nat => Value.int .i64 (n : Int)) ++ [.int .i64 (m : Int)])) : OwnN w base v (ys ++ [m]) := by
  unfold OwnN
  rw [List.length_append, List.map_append]
  exact h
set_option maxHeartbeats 400000 in
set_option maxRecDepth 100000 in
theorem find_any {s : ByteArray} {sch : Nat} {kind : Int} {xs : List Val} (h : Opens s sch kind xs) (hl : xs.length ≤ 4096) (op : Int) (h1 : 12 ≤ op) (h2 : op ≤ 17) (y : Val) (w : World) :
    Calls Try.prog 52 #[.string s, .int .i64 op, y.v] w fun e w' => ∃ v, e = .returned (.tuple #[v, .int .i64 0]) ∧ OwnN w' w.heap.size v (fT (hitF op y xs) xs.length) ∧ Below w.heap.size w w' := by
  obtain ⟨i3, hi3, z30, z31, z32⟩ := info_parts Try.info3'
  have H := hide h
  rw [y.open_]
  have HB := hide (box3_alloc w y)
  clear h
  go_enter Try.func52, Try.ntmps52
  go_wp2_with (go_at_call 54; refine (unhide H _).mono ?_; rintro e w1 ⟨a, c, rfl, hr1, hb1⟩)
  have hB1 := below_alloc (below_one hb1) (.cells #[.int .i64 (sch : Int), .int .i64 kind, .slice a xs.length c] 86)
  have HBX := hide (World.rowIs.alloc (rowIs_later (unhide HB) hb1) (.cells #[.int .i64 (sch : Int), .int .i64 kind, .slice a xs.length c] 86))
  have HRW := hide (hr1.later (below_alloc (Below.refl _ _) (.cells #[.int .i64 (sch : Int), .int .i64 kind, .slice a xs.length c] 86)))
  obtain ⟨W, hW⟩ : ∃ W, Hid (W = w1.alloc (.cells #[.int .i64 (sch : Int), .int .i64 kind, .slice a xs.length c] 86)) := ⟨_, rfl⟩
  have hcell : W.cell? ⟨w1.heap.size, 2, none⟩ = some (.slice a xs.length c) := by rw [unhide hW]; simp [go_sem]
  rw [← unhide hW] at hB1 HBX HRW ⊢
  clear hb1 hr1 hW HB
  have hz : w.heap.size ≤ W.heap.size := hB1.size
  go_wp2_with fail
  go_loopw [10, 30] (fun v i wr => ∃ k : Nat, k ≤ xs.length ∧ i = .int .i64 (k : Int) ∧ OwnN wr W.heap.size v (fT (hitF op y xs) k) ∧ Below W.heap.size W wr) (fun _ i _ => xs.length - (intOf i).toNat)
  case atStart => exact ⟨0, Nat.zero_le _, rfl, ⟨rfl, .inl ⟨rfl, rfl⟩⟩, Below.refl _ _⟩
  case round =>
    obtain ⟨k, hk, rfl, ho, hb⟩ := hrel
    have hfl := fT_len (hitF op y xs) k
    by_cases hlt : k < xs.length
    · have h9 : (k : Int) < (xs.length : Int) := by omega
      obtain ⟨x, hx⟩ : ∃ x, xs[k]? = some x := ⟨_, List.getElem?_eq_getElem hlt⟩
      obtain ⟨vb, vo, rfl, c0, c1, c2⟩ := ((unhide HRW).later hb).lo hx
      obtain ⟨y0, y1, y2, _, _, _⟩ := box3_facts (World.rowIs.alloc (rowIs_later (unhide HBX) hb) (.cells #[.int .i64 x.k, .int .i64 x.n, .string x.s] 40))
      have HT := hide (test_o op x y (wr.alloc (.cells #[.int .i64 x.k, .int .i64 x.n, .string x.s] 40)))
      have HH := hide (true_any (testV op x y))
      have HN : Hid (fT (hitF op y xs) (k + 1) = fT (hitF op y xs) k ++ (if hitB op y x then [k] else [])) := by show _ = _; rw [fT_next, hitF_at hx]
      have hzr := hb.size
      have HO := hide ho
      have HB2 := hide hb
      have hhd : trueB (testV op x y) = hitB op y x := rfl
      rw [hhd] at HH
      generalize testV op x y = tv at HT HH
      clear hx hb ho hhd
      cases hh : hitB op y x
      · rw [hh] at HH HN
        clear hh
        go_wp2_with (first
          | (go_at_call 53; refine (unhide HT).mono ?_; rintro e w3 ⟨rfl, hb3⟩)
          | (go_at_call 44; refine (unhide HH _).mono ?_; rintro e w4 ⟨rfl, hb4⟩))
        go_roundw
        case rel => exact ⟨k + 1, by omega, by go_num, by rw [unhide HN, if_neg (by decide), List.append_nil]; exact own_later (unhide HO) (below_step (below_one hb3) hb4), below_step (unhide HB2) (below_step (below_one hb3) hb4)⟩
        case measure => simp [intOf]; omega
      · rw [hh] at HH HN
        clear hh
        go_wp2_with (first
          | (go_at_call 53; refine (unhide HT).mono ?_; rintro e w3 ⟨rfl, hb3⟩)
          | (go_at_call 44; refine (unhide HH _).mono ?_; rintro e w4 ⟨rfl, hb4⟩; have hB4 := below_step (below_one hb3) hb4; have ho4 := own_later (unhide HO) hB4; have hs4 := hB4.size)
          | (at_builtin; refine wpList_append_own_at _ rfl (.tmp 40) (.tmp 42) 36 rfl W.heap.size 3 i3 (.int .i64 0) 1 8 Try.underlying36 hi3 z30 z31 z32 rfl (by decide) _ _ _ rfl (World.ownsRow.alloc ho4 _) ⟨w4.heap.size, 0, none⟩ 1 1 [.int .i64 (k : Int)] rfl rfl (cell_one_new _ _ _) (by intro u hu; simp at hu; subst hu; rfl) (by unfold maxLen; omega) (by omega) (by simp; omega) ?_; intro v' w5 hown' hgrow _ hat))
        go_roundw
        case rel => exact ⟨k + 1, by omega, by go_num, by rw [unhide HN]; exact ownN_app hown', grown_below (B := W.heap.size) hgrow (by simp; omega) (fun g hg => (World.ownsRow.lt ho4 g hg).1) |> fun h => (below_alloc (below_step (unhide HB2) hB4) _).trans h⟩
        case measure => simp [intOf]; omega
    · have h9 : ¬ (k : Int) < (xs.length : Int) := by omega
      have ek : k = xs.length := by omega
      rw [ek] at ho
      have HE : Hid (OwnN wr w.heap.size u10 (fT (hitF op y xs) xs.length) ∧ Below w.heap.size w wr) := ⟨own_base ho hz, below_step hB1 hb⟩
      clear ho hb ek
      go_wp2
      go_ret2
      exact ⟨_, rfl, unhide HE⟩
set_option maxHeartbeats 400000 in
theorem mod_any (n : Int) (m : Nat) (h1 : 1 ≤ m) (h2 : m ≤ 4096) (w : World) : Calls Try.prog 50 #[.int .i64 n, .int .i64 (m : Int)] w fun e w' => (∃ r : Nat, r < m ∧ e = .returned (.int .i64 (r : Int))) ∧ w' = w := by
  have hm0 : ¬ (m : Int) = 0 := by omega
  have hmi : (m : Int) ≤ 4096 := by omega
  have hm1 : (1 : Int) ≤ (m : Int) := by omega
  obtain ⟨a, ha⟩ : ∃ a, a = n.tmod (m : Int) := ⟨_, rfl⟩
  have hlt : -(m : Int) < a ∧ a < (m : Int) := by
    have g1 := Int.tmod_lt_of_pos n (b := (m : Int)) (by omega)
    have g2 : -(m : Int) < n.tmod (m : Int) := by
      have := Int.lt_tmod_of_pos n (b := (m : Int)) (by omega)
      omega
    omega
  go_enter Try.func50, Try.ntmps50
  go_wp2
  go_ret
  have g1 := Int.emod_nonneg (n.tmod (m : Int) + (m : Int)) hm0
  have g2 := Int.emod_lt_of_pos (n.tmod (m : Int) + (m : Int)) (b := (m : Int)) (by omega)
  refine ⟨⟨((n.tmod (m : Int) + (m : Int)) % (m : Int)).toNat, by omega, ?_⟩, rfl⟩
  rw [Int.toNat_of_nonneg g1]
  rfl
set_option maxHeartbeats 400000 in
set_option maxRecDepth 100000 in
theorem samerow_same (a b : Option Addr) (c d : Nat) (xs : List Val) (w : World) (hl : xs.length ≤ 4096) (ha : RowAt w a xs) (hb : RowAt w b xs) :
    Calls Try.prog 48 #[.slice a xs.length c, .slice b xs.length d] w fun e w' => e = .returned (.bool true) ∧ Below w.heap.size w w' := by
  have HA := hide ha
  have HB := hide hb
  clear ha hb
  go_enter Try.func48, Try.ntmps48
  go_wp2_with fail
  go_loopw [13] (fun i wr => ∃ k : Nat, k ≤ xs.length ∧ i = .int .i64 (k : Int) ∧ Below w.heap.size w wr) (fun i _ => xs.length - (intOf i).toNat)
  case atStart => exact ⟨0, Nat.zero_le _, rfl, Below.refl _ _⟩
  case round =>
    obtain ⟨k, hk, rfl, hb⟩ := hrel
    by_cases hlt : k < xs.length
    · have h9 : (k : Int) < (xs.length : Int) := by omega
      obtain ⟨x, hx⟩ : ∃ x, xs[k]? = some x := ⟨_, List.getElem?_eq_getElem hlt⟩
      obtain ⟨vb, vo, rfl, c0, c1, c2⟩ := ((unhide HA).later hb).lo hx
      obtain ⟨ub, uo, rfl, d0, d1, d2⟩ := ((unhide HB).later hb).lo hx
      have HB2 := hide hb
      clear hx hb
      go_wp2_with fail
      go_quiet (fail)
      go_wp2
      go_roundw
      case rel => exact ⟨k + 1, by omega, by go_num, below_drewN (unhide HB2) _⟩
      case measure => simp [intOf]; omega
    · have h9 : ¬ (k : Int) < (xs.length : Int) := by omega
      have HB2 := hide hb
      clear hb
      go_wp2
      go_ret
      exact ⟨rfl, unhide HB2⟩
end Go.Proofs.Ytihkflcdphebmab
