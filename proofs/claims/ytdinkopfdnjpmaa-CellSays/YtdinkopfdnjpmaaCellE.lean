import Derived.Test.YtdinkopfdnjpmaaCellD
set_option linter.unusedSimpArgs false
set_option linter.unusedVariables false
namespace Go.Proofs.Ytdinkopfdnjpmaa
open Go.RowKit Go.Sort

def rowsV : List Val → List Val → Int
  | [], [] => 0
  | [], _ :: _ => -1
  | _ :: _, [] => 1
  | x :: xs, y :: ys => if ordV x y = 0 then rowsV xs ys else ordV x y

/-- A slice of values, as it lies in memory: the elements. -/
def RowAt (w : World) (a : Option Addr) (xs : List Val) : Prop :=
  xs = [] ∨ ∃ b off, a = some ⟨b, off, none⟩ ∧ ∀ i x, xs[i]? = some x → w.cell? ⟨b, off + i * 3, none⟩ = some (.int .i64 x.k) ∧ w.cell? ⟨b, off + i * 3 + 1, none⟩ = some (.int .i64 x.n) ∧ w.cell? ⟨b, off + i * 3 + 2, none⟩ = some (.string x.s)
theorem RowAt.later {w w' : World} {a : Option Addr} {xs : List Val} (h : RowAt w a xs) (hb : Below w.heap.size w w') : RowAt w' a xs := by
  rcases h with h | ⟨b, off, ha, h⟩
  · exact .inl h
  · exact .inr ⟨b, off, ha, fun i x hx => ⟨cell_later hb (h i x hx).1, cell_later hb (h i x hx).2.1, cell_later hb (h i x hx).2.2⟩⟩

theorem rows_step {xs ys : List Val} {k : Nat} {x y : Val} (hx : xs[k]? = some x) (hy : ys[k]? = some y) :
    rowsV (xs.drop k) (ys.drop k) = if ordV x y = 0 then rowsV (xs.drop (k + 1)) (ys.drop (k + 1)) else ordV x y := by
  obtain ⟨h1, rfl⟩ := List.getElem?_eq_some_iff.1 hx
  obtain ⟨h2, rfl⟩ := List.getElem?_eq_some_iff.1 hy
  rw [List.drop_eq_getElem_cons h1, List.drop_eq_getElem_cons h2, rowsV]

theorem rcmp_gt {m n : Nat} (h : n < m) : rcmpI (decide (m < n)) ((m : Int) == (n : Int)) = 1 := by
  have h1 : decide (m < n) = false := by simp; omega
  have h2 : ((m : Int) == (n : Int)) = false := by simp; omega
  rw [h1, h2]; rfl
theorem rcmp_lt {m n : Nat} (h : m < n) : rcmpI (decide (m < n)) ((m : Int) == (n : Int)) = -1 := by
  have h1 : decide (m < n) = true := by simp; omega
  have h2 : ((m : Int) == (n : Int)) = false := by simp; omega
  rw [h1, h2]; rfl
theorem rcmp_same {m n : Nat} (h : m = n) : rcmpI (decide (m < n)) ((m : Int) == (n : Int)) = 0 := by
  subst h; simp [rcmpI]

set_option maxHeartbeats 2000000 in
set_option maxRecDepth 100000 in
theorem rrows_any (aa ab : Option Addr) (ca cb : Nat) (xs ys : List Val) (w : World) (hla : xs.length ≤ maxLen) (hlb : ys.length ≤ maxLen) (ha : RowAt w aa xs) (hb : RowAt w ab ys) :
    Calls Try.prog 26 #[.slice aa xs.length ca, .slice ab ys.length cb] w fun e w' => e = .returned (.int .i64 (rowsV xs ys)) ∧ Below w.heap.size w w' := by
  unfold maxLen at hla hlb
  go_enter Try.func26, Try.ntmps26
  go_wp2_with fail
  go_loopw [5] (fun i wx => ∃ k : Nat, k ≤ xs.length ∧ k ≤ ys.length ∧ i = .int .i64 k ∧ rowsV xs ys = rowsV (xs.drop k) (ys.drop k) ∧ Below w.heap.size w wx) (fun i wx => xs.length - (intOf i).toNat)
  case atStart => exact ⟨0, Nat.zero_le _, Nat.zero_le _, rfl, rfl, Below.refl _ _⟩
  case round =>
    obtain ⟨k, hk1, hk2, rfl, hr, hbel⟩ := hrel
    have HR := hide hr
    clear hr
    have ha' := ha.later hbel
    have hb' := hb.later hbel
    by_cases h1 : k < xs.length
    · by_cases h2 : k < ys.length
      · obtain ⟨x, hx⟩ : ∃ x, xs[k]? = some x := ⟨_, List.getElem?_eq_getElem h1⟩
        obtain ⟨y, hy⟩ : ∃ y, ys[k]? = some y := ⟨_, List.getElem?_eq_getElem h2⟩
        rcases ha' with e | ⟨ba, oa, rfl, hca⟩
        · subst e; simp at h1
        rcases hb' with e | ⟨bb, ob, rfl, hcb⟩
        · subst e; simp at h2
        obtain ⟨c0, c1, c2⟩ := hca k x hx
        obtain ⟨d0, d1, d2⟩ := hcb k y hy
        have HS := hide (rows_step hx hy)
        have i1 : (k : Int) < (xs.length : Int) := by omega
        have i2 : (k : Int) < (ys.length : Int) := by omega
        clear hca hcb hx hy
        have k0 := cell_regrown c0
        have k1 := cell_regrown c1
        have k2 := cell_regrown c2
        have k3 := cell_regrown d0
        have k4 := cell_regrown d1
        have k5 := cell_regrown d2
        have HO := hide (rorder_any x y)
        go_wp2_with fail
        refine wp_region_quiet_below (by kernel_rfl) (by kernel_rfl) ?_
        repeat (go_big_quiet_step ((go_at_call 12; exact Calls.regrown_of (unhide HO _))))
        refine wpQuiet_nil ?_
        intro w' hw'
        have hB : Below wr.heap.size wr w' := by obtain ⟨p, rfl⟩ := hw'; exact below_regrown _ _ _
        clear hw'
        have hbel' := below_step hbel hB
        by_cases ho : ordV x y = 0
        · have ho' : (ordV x y != 0) = false := by simpa using ho
          have HE : Hid (rowsV xs ys = rowsV (xs.drop (k + 1)) (ys.drop (k + 1))) := by show _ = _; rw [unhide HR, unhide HS, if_pos ho]
          clear ho
          go_wp2
          go_roundw
          case rel => exact ⟨k + 1, by omega, by omega, by go_num, unhide HE, hbel'⟩
          case measure => simp [intOf]; omega
        · have ho' : (ordV x y != 0) = true := by simpa using ho
          have HE : Hid (rowsV xs ys = ordV x y) := by show _ = _; rw [unhide HR, unhide HS, if_neg ho]
          clear ho
          go_wp2
          go_ret
          exact ⟨by rw [unhide HE]; rfl, hbel'⟩
      · have e : k = ys.length := by omega
        have HE : Hid (rowsV xs ys = 1) := by
          show _ = _
          rw [unhide HR, e, List.drop_length, ← e, List.drop_eq_getElem_cons h1, rowsV]
        have i1 : (k : Int) < (xs.length : Int) := by omega
        have i2 : ¬ (k : Int) < (ys.length : Int) := by omega
        clear e
        go_wp2_with (go_at_call 47; refine (rcmp_d _ _ _).mono ?_; rintro e w1 ⟨rfl, rfl⟩)
        go_ret
        refine ⟨?_, hbel⟩
        rw [unhide HE]
        refine congrArg (fun z => Ending.returned (Value.int IntKind.i64 z)) ?_
        exact rcmp_gt (by omega)
    · have e : k = xs.length := by omega
      by_cases h2 : k < ys.length
      · have HE : Hid (rowsV xs ys = -1) := by
          show _ = _
          rw [unhide HR, e, List.drop_length, ← e, List.drop_eq_getElem_cons h2, rowsV]
        have i1 : ¬ (k : Int) < (xs.length : Int) := by omega
        clear e
        go_wp2_with (go_at_call 47; refine (rcmp_d _ _ _).mono ?_; rintro e w1 ⟨rfl, rfl⟩)
        go_ret
        refine ⟨?_, hbel⟩
        rw [unhide HE]
        refine congrArg (fun z => Ending.returned (Value.int IntKind.i64 z)) ?_
        exact rcmp_lt (by omega)
      · have e2 : k = ys.length := by omega
        have HE : Hid (rowsV xs ys = 0) := by
          show _ = _
          rw [unhide HR, e, List.drop_length, ← e, e2, List.drop_length, rowsV]
        have i1 : ¬ (k : Int) < (xs.length : Int) := by omega
        clear e e2
        go_wp2_with (go_at_call 47; refine (rcmp_d _ _ _).mono ?_; rintro e w1 ⟨rfl, rfl⟩)
        go_ret
        refine ⟨?_, hbel⟩
        rw [unhide HE]
        refine congrArg (fun z => Ending.returned (Value.int IntKind.i64 z)) ?_
        exact rcmp_same (by omega)


set_option maxHeartbeats 2000000 in
set_option maxRecDepth 100000 in
theorem compare_any (aa ab : Option Addr) (ca cb : Nat) (xs ys : List Val) (w : World) (hla : xs.length ≤ maxLen) (hlb : ys.length ≤ maxLen) (ha : RowAt w aa xs) (hb : RowAt w ab ys) :
    Calls Try.prog 60 #[.slice aa xs.length ca, .slice ab ys.length cb, .func (.func 11) #[] #[]] w fun e w' => e = .returned (.int .i64 (rowsV xs ys)) ∧ Below w.heap.size w w' := by
  unfold maxLen at hla hlb
  go_enter Try.func60, Try.ntmps60
  go_wp2_with fail
  go_loopw [13] (fun i wx => ∃ k : Nat, k ≤ xs.length ∧ k ≤ ys.length ∧ i = .int .i64 k ∧ rowsV xs ys = rowsV (xs.drop k) (ys.drop k) ∧ Below w.heap.size w wx) (fun i wx => xs.length - (intOf i).toNat)
  case atStart => exact ⟨0, Nat.zero_le _, Nat.zero_le _, rfl, rfl, Below.refl _ _⟩
  case round =>
    obtain ⟨k, hk1, hk2, rfl, hr, hbel⟩ := hrel
    have HR := hide hr
    clear hr
    have ha' := ha.later hbel
    have hb' := hb.later hbel
    by_cases h1 : k < xs.length
    · obtain ⟨x, hx⟩ : ∃ x, xs[k]? = some x := ⟨_, List.getElem?_eq_getElem h1⟩
      rcases ha' with e | ⟨ba, oa, rfl, hca⟩
      · subst e; simp at h1
      obtain ⟨c0, c1, c2⟩ := hca k x hx
      have i1 : (k : Int) < (xs.length : Int) := by omega
      by_cases h2 : k < ys.length
      · obtain ⟨y, hy⟩ : ∃ y, ys[k]? = some y := ⟨_, List.getElem?_eq_getElem h2⟩
        rcases hb' with e | ⟨bb, ob, rfl, hcb⟩
        · subst e; simp at h2
        obtain ⟨d0, d1, d2⟩ := hcb k y hy
        have HS := hide (rows_step hx hy)
        have i2 : (k : Int) < (ys.length : Int) := by omega
        have n0 := World.block_lt_of_cell? _ _ d0
        clear hca hcb hx hy
        by_cases ho : ordV x y = 0
        · have ho' : (ordV x y != 0) = false := by simpa using ho
          have HE : Hid (rowsV xs ys = rowsV (xs.drop (k + 1)) (ys.drop (k + 1))) := by show _ = _; rw [unhide HR, unhide HS, if_pos ho]
          clear ho
          go_wp2_with (go_at_call 11; refine (order_any x y _).mono ?_; rintro e w1 ⟨rfl, hb1⟩)
          go_roundw
          case rel => exact ⟨k + 1, by omega, by omega, by go_num, unhide HE, below_step (below_alloc (below_alloc hbel _) _) hb1⟩
          case measure => simp [intOf]; omega
        · have ho' : (ordV x y != 0) = true := by simpa using ho
          have HE : Hid (rowsV xs ys = ordV x y) := by show _ = _; rw [unhide HR, unhide HS, if_neg ho]
          clear ho
          go_wp2_with (go_at_call 11; refine (order_any x y _).mono ?_; rintro e w1 ⟨rfl, hb1⟩)
          go_ret
          exact ⟨by rw [unhide HE]; rfl, below_step (below_alloc (below_alloc hbel _) _) hb1⟩
      · have e : k = ys.length := by omega
        have HE : Hid (rowsV xs ys = 1) := by
          show _ = _
          rw [unhide HR, e, List.drop_length, ← e, List.drop_eq_getElem_cons h1, rowsV]
        have i2 : (ys.length : Int) ≤ (k : Int) := by omega
        clear e hca hx
        go_wp2
        go_ret
        exact ⟨by rw [unhide HE]; rfl, below_alloc hbel _⟩
    · have e : k = xs.length := by omega
      have i1 : ¬ (k : Int) < (xs.length : Int) := by omega
      by_cases h2 : k < ys.length
      · have HE : Hid (rowsV xs ys = -1) := by
          show _ = _
          rw [unhide HR, e, List.drop_length, ← e, List.drop_eq_getElem_cons h2, rowsV]
        have i3 : (xs.length : Int) < (ys.length : Int) := by omega
        clear e
        go_wp2
        go_ret
        exact ⟨by rw [unhide HE]; rfl, hbel⟩
      · have e2 : k = ys.length := by omega
        have HE : Hid (rowsV xs ys = 0) := by
          show _ = _
          rw [unhide HR, e, List.drop_length, ← e, e2, List.drop_length, rowsV]
        have i3 : ¬ (xs.length : Int) < (ys.length : Int) := by omega
        clear e e2
        go_wp2
        go_ret
        exact ⟨by rw [unhide HE]; rfl, hbel⟩

theorem rows_any (aa ab : Option Addr) (ca cb : Nat) (xs ys : List Val) (w : World) (hla : xs.length ≤ maxLen) (hlb : ys.length ≤ maxLen) (ha : RowAt w aa xs) (hb : RowAt w ab ys) :
    Calls Try.prog 25 #[.slice aa xs.length ca, .slice ab ys.length cb] w fun e w' => e = .returned (.int .i64 (rowsV xs ys)) ∧ Below w.heap.size w w' := by
  have HC := hide (compare_any aa ab ca cb xs ys w hla hlb ha hb)
  clear ha hb hla hlb
  go_enter Try.func25, Try.ntmps25
  go_wp2_with (go_at_call 60; refine (unhide HC).mono ?_; rintro e w1 ⟨rfl, hb1⟩)
  go_ret
  exact ⟨rfl, hb1⟩

end Go.Proofs.Ytdinkopfdnjpmaa
