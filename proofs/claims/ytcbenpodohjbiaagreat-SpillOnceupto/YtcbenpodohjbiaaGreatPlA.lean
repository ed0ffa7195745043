import Derived.Test.YtcbenpodohjbiaaGreatExA
set_option linter.unusedSimpArgs false
set_option linter.unusedVariables false
namespace Go.Proofs.YtcbenpodohjbiaaGreat
open Go.RowKit Go.Sort

/-- A row of values, to be read. -/
def RowAt (w : World) (a : Option Addr) (xs : List Val) : Prop :=
  xs = [] ∨ ∃ b off, a = some ⟨b, off, none⟩ ∧ ∀ i x, xs[i]? = some x → w.cell? ⟨b, off + i * 3, none⟩ = some (.int .i64 x.k) ∧ w.cell? ⟨b, off + i * 3 + 1, none⟩ = some (.int .i64 x.n) ∧ w.cell? ⟨b, off + i * 3 + 2, none⟩ = some (.string x.s)
theorem RowAt.later {w w' : World} {a : Option Addr} {xs : List Val} (h : RowAt w a xs) (hb : Below w.heap.size w w') : RowAt w' a xs := by
  rcases h with h | ⟨b, off, ha, h⟩
  · exact .inl h
  · exact .inr ⟨b, off, ha, fun i x hx => ⟨clater (h i x hx).1 hb, clater (h i x hx).2.1 hb, clater (h i x hx).2.2 hb⟩⟩
theorem RowAt.lo {w : World} {a : Option Addr} {xs : List Val} {k : Nat} {x : Val} (h : RowAt w a xs) (hx : xs[k]? = some x) : ∃ b off, a = some ⟨b, off, none⟩ ∧ w.cell? ⟨b, off + k * 3, none⟩ = some (.int .i64 x.k) ∧ w.cell? ⟨b, off + k * 3 + 1, none⟩ = some (.int .i64 x.n) ∧ w.cell? ⟨b, off + k * 3 + 2, none⟩ = some (.string x.s) := by
  rcases h with e | ⟨b, off, rfl, hc⟩
  · rw [e] at hx; cases hx
  · exact ⟨b, off, rfl, hc k x hx⟩
/-- A function of the program's own, in which a call goes on. -/
def Enters (n : Nat) : Prop := ∀ args w, (callFunc n args).run Tryz.prog w = .ok (.enter n args) w
end Go.Proofs.YtcbenpodohjbiaaGreat
set_option linter.unusedSimpArgs false
set_option linter.unusedVariables false
namespace Go.Proofs.YtcbenpodohjbiaaGreat
open Go.RowKit Go.Sort

def rowsV : List Val → List Val → Int
  | [], [] => 0
  | [], _ :: _ => -1
  | _ :: _, [] => 1
  | x :: xs, y :: ys => if ordV x y = 0 then rowsV xs ys else ordV x y
theorem rows_step {xs ys : List Val} {k : Nat} {x y : Val} (hx : xs[k]? = some x) (hy : ys[k]? = some y) :
    rowsV (xs.drop k) (ys.drop k) = if ordV x y = 0 then rowsV (xs.drop (k + 1)) (ys.drop (k + 1)) else ordV x y := by
  obtain ⟨h1, rfl⟩ := List.getElem?_eq_some_iff.1 hx
  obtain ⟨h2, rfl⟩ := List.getElem?_eq_some_iff.1 hy
  rw [List.drop_eq_getElem_cons h1, List.drop_eq_getElem_cons h2, rowsV]
theorem rcmp_gt {m n : Nat} (h : n < m) : rcmpI (decide (m < n)) ((m : Int) == (n : Int)) = 1 := by
  have h1 : decide (m < n) = false := by simp; omega
  have h2 : ((m : Int) == (n : Int)) = false := by simp; omega
  rw [h1, h2]; rfl
theorem rcmp_lt {m n : Nat} (h : m < n) : rcmpI (decide (m < n)) ((m : Int) == (n : Int)) = -1 := by
  have h1 : decide (m < n) = true := by simp; omega
  have h2 : ((m : Int) == (n : Int)) = false := by simp; omega
  rw [h1, h2]; rfl
theorem rcmp_same {m n : Nat} (h : m = n) : rcmpI (decide (m < n)) ((m : Int) == (n : Int)) = 0 := by
  subst h; simp [rcmpI]
set_option maxHeartbeats 2000000 in
set_option maxRecDepth 100000 in
theorem rrows_any (aa ab : Option Addr) (ca cb : Nat) (xs ys : List Val) (w : World) (hla : xs.length ≤ maxLen) (hlb : ys.length ≤ maxLen) (ha : RowAt w aa xs) (hb : RowAt w ab ys) :
    Calls Tryz.prog 49 #[.slice aa xs.length ca, .slice ab ys.length cb] w fun e w' => e = .returned (.int .i64 (rowsV xs ys)) ∧ Below w.heap.size w w' := by
  unfold maxLen at hla hlb
  go_enter Tryz.func49, Tryz.ntmps49
  go_wp2_with fail
  go_loopw [5] (fun i wx => ∃ k : Nat, k ≤ xs.length ∧ k ≤ ys.length ∧ i = .int .i64 k ∧ rowsV xs ys = rowsV (xs.drop k) (ys.drop k) ∧ Below w.heap.size w wx) (fun i wx => xs.length - (intOf i).toNat)
  case atStart => exact ⟨0, Nat.zero_le _, Nat.zero_le _, rfl, rfl, Below.refl _ _⟩
  case round =>
    obtain ⟨k, hk1, hk2, rfl, hr, hbel⟩ := hrel
    have HR := hide hr
    clear hr
    have ha' := ha.later hbel
    have hb' := hb.later hbel
    by_cases h1 : k < xs.length
    · by_cases h2 : k < ys.length
      · obtain ⟨x, hx⟩ : ∃ x, xs[k]? = some x := ⟨_, List.getElem?_eq_getElem h1⟩
        obtain ⟨y, hy⟩ : ∃ y, ys[k]? = some y := ⟨_, List.getElem?_eq_getElem h2⟩
        rcases ha' with e | ⟨ba, oa, rfl, hca⟩
        · subst e; simp at h1
        rcases hb' with e | ⟨bb, ob, rfl, hcb⟩
        · subst e; simp at h2
        obtain ⟨c0, c1, c2⟩ := hca k x hx
        obtain ⟨d0, d1, d2⟩ := hcb k y hy
        have HS := hide (rows_step hx hy)
        have i1 : (k : Int) < (xs.length : Int) := by omega
        have i2 : (k : Int) < (ys.length : Int) := by omega
        clear hca hcb hx hy
        have k0 := cell_regrown c0
        have k1 := cell_regrown c1
        have k2 := cell_regrown c2
        have k3 := cell_regrown d0
        have k4 := cell_regrown d1
        have k5 := cell_regrown d2
        have HO := hide (rorder_any x y)
        go_wp2_with fail
        refine wp_region_quiet_below (by kernel_rfl) (by kernel_rfl) ?_
        repeat (go_big_quiet_step ((go_at_call 50; exact Calls.regrown_of (unhide HO _))))
        refine wpQuiet_nil ?_
        intro w' hw'
        have hB : Below wr.heap.size wr w' := by obtain ⟨p, rfl⟩ := hw'; exact below_regrown _ _ _
        clear hw'
        have hbel' := below_step hbel hB
        by_cases ho : ordV x y = 0
        · have ho' : (ordV x y != 0) = false := by simpa using ho
          have HE : Hid (rowsV xs ys = rowsV (xs.drop (k + 1)) (ys.drop (k + 1))) := by show _ = _; rw [unhide HR, unhide HS, if_pos ho]
          clear ho
          go_wp2
          go_roundw
          case rel => exact ⟨k + 1, by omega, by omega, by go_num, unhide HE, hbel'⟩
          case measure => simp [intOf]; omega
        · have ho' : (ordV x y != 0) = true := by simpa using ho
          have HE : Hid (rowsV xs ys = ordV x y) := by show _ = _; rw [unhide HR, unhide HS, if_neg ho]
          clear ho
          go_wp2
          go_ret
          exact ⟨by rw [unhide HE]; rfl, hbel'⟩
      · have e : k = ys.length := by omega
        have HE : Hid (rowsV xs ys = 1) := by
          show _ = _
          rw [unhide HR, e, List.drop_length, ← e, List.drop_eq_getElem_cons h1, rowsV]
        have i1 : (k : Int) < (xs.length : Int) := by omega
        have i2 : ¬ (k : Int) < (ys.length : Int) := by omega
        clear e
        go_wp2_with (go_at_call 76; refine (rcmp_d _ _ _).mono ?_; rintro e w1 ⟨rfl, rfl⟩)
        go_ret
        refine ⟨?_, hbel⟩
        rw [unhide HE]
        refine congrArg (fun z => Ending.returned (Value.int IntKind.i64 z)) ?_
        exact rcmp_gt (by omega)
    · have e : k = xs.length := by omega
      by_cases h2 : k < ys.length
      · have HE : Hid (rowsV xs ys = -1) := by
          show _ = _
          rw [unhide HR, e, List.drop_length, ← e, List.drop_eq_getElem_cons h2, rowsV]
        have i1 : ¬ (k : Int) < (xs.length : Int) := by omega
        clear e
        go_wp2_with (go_at_call 76; refine (rcmp_d _ _ _).mono ?_; rintro e w1 ⟨rfl, rfl⟩)
        go_ret
        refine ⟨?_, hbel⟩
        rw [unhide HE]
        refine congrArg (fun z => Ending.returned (Value.int IntKind.i64 z)) ?_
        exact rcmp_lt (by omega)
      · have e2 : k = ys.length := by omega
        have HE : Hid (rowsV xs ys = 0) := by
          show _ = _
          rw [unhide HR, e, List.drop_length, ← e, e2, List.drop_length, rowsV]
        have i1 : ¬ (k : Int) < (xs.length : Int) := by omega
        clear e e2
        go_wp2_with (go_at_call 76; refine (rcmp_d _ _ _).mono ?_; rintro e w1 ⟨rfl, rfl⟩)
        go_ret
        refine ⟨?_, hbel⟩
        rw [unhide HE]
        refine congrArg (fun z => Ending.returned (Value.int IntKind.i64 z)) ?_
        exact rcmp_same (by omega)
set_option maxHeartbeats 2000000 in
set_option maxRecDepth 100000 in
theorem compare_any (aa ab : Option Addr) (ca cb : Nat) (xs ys : List Val) (w : World) (hla : xs.length ≤ maxLen) (hlb : ys.length ≤ maxLen) (ha : RowAt w aa xs) (hb : RowAt w ab ys) :
    Calls Tryz.prog 57 #[.slice aa xs.length ca, .slice ab ys.length cb, .func (.func 33) #[] #[]] w fun e w' => e = .returned (.int .i64 (rowsV xs ys)) ∧ Below w.heap.size w w' := by
  unfold maxLen at hla hlb
  go_enter Tryz.func57, Tryz.ntmps57
  go_wp2_with fail
  go_loopw [13] (fun i wx => ∃ k : Nat, k ≤ xs.length ∧ k ≤ ys.length ∧ i = .int .i64 k ∧ rowsV xs ys = rowsV (xs.drop k) (ys.drop k) ∧ Below w.heap.size w wx) (fun i wx => xs.length - (intOf i).toNat)
  case atStart => exact ⟨0, Nat.zero_le _, Nat.zero_le _, rfl, rfl, Below.refl _ _⟩
  case round =>
    obtain ⟨k, hk1, hk2, rfl, hr, hbel⟩ := hrel
    have HR := hide hr
    clear hr
    have ha' := ha.later hbel
    have hb' := hb.later hbel
    by_cases h1 : k < xs.length
    · obtain ⟨x, hx⟩ : ∃ x, xs[k]? = some x := ⟨_, List.getElem?_eq_getElem h1⟩
      rcases ha' with e | ⟨ba, oa, rfl, hca⟩
      · subst e; simp at h1
      obtain ⟨c0, c1, c2⟩ := hca k x hx
      have i1 : (k : Int) < (xs.length : Int) := by omega
      by_cases h2 : k < ys.length
      · obtain ⟨y, hy⟩ : ∃ y, ys[k]? = some y := ⟨_, List.getElem?_eq_getElem h2⟩
        rcases hb' with e | ⟨bb, ob, rfl, hcb⟩
        · subst e; simp at h2
        obtain ⟨d0, d1, d2⟩ := hcb k y hy
        have HS := hide (rows_step hx hy)
        have i2 : (k : Int) < (ys.length : Int) := by omega
        have n0 := World.block_lt_of_cell? _ _ d0
        clear hca hcb hx hy
        by_cases ho : ordV x y = 0
        · have ho' : (ordV x y != 0) = false := by simpa using ho
          have HE : Hid (rowsV xs ys = rowsV (xs.drop (k + 1)) (ys.drop (k + 1))) := by show _ = _; rw [unhide HR, unhide HS, if_pos ho]
          clear ho
          go_wp2_with (go_at_call 33; refine (order_any x y _).mono ?_; rintro e w1 ⟨rfl, hb1⟩)
          go_roundw
          case rel => exact ⟨k + 1, by omega, by omega, by go_num, unhide HE, below_step (below_alloc (below_alloc hbel _) _) hb1⟩
          case measure => simp [intOf]; omega
        · have ho' : (ordV x y != 0) = true := by simpa using ho
          have HE : Hid (rowsV xs ys = ordV x y) := by show _ = _; rw [unhide HR, unhide HS, if_neg ho]
          clear ho
          go_wp2_with (go_at_call 33; refine (order_any x y _).mono ?_; rintro e w1 ⟨rfl, hb1⟩)
          go_ret
          exact ⟨by rw [unhide HE]; rfl, below_step (below_alloc (below_alloc hbel _) _) hb1⟩
      · have e : k = ys.length := by omega
        have HE : Hid (rowsV xs ys = 1) := by
          show _ = _
          rw [unhide HR, e, List.drop_length, ← e, List.drop_eq_getElem_cons h1, rowsV]
        have i2 : (ys.length : Int) ≤ (k : Int) := by omega
        clear e hca hx
        go_wp2
        go_ret
        exact ⟨by rw [unhide HE]; rfl, below_alloc hbel _⟩
    · have e : k = xs.length := by omega
      have i1 : ¬ (k : Int) < (xs.length : Int) := by omega
      by_cases h2 : k < ys.length
      · have HE : Hid (rowsV xs ys = -1) := by
          show _ = _
          rw [unhide HR, e, List.drop_length, ← e, List.drop_eq_getElem_cons h2, rowsV]
        have i3 : (xs.length : Int) < (ys.length : Int) := by omega
        clear e
        go_wp2
        go_ret
        exact ⟨by rw [unhide HE]; rfl, hbel⟩
      · have e2 : k = ys.length := by omega
        have HE : Hid (rowsV xs ys = 0) := by
          show _ = _
          rw [unhide HR, e, List.drop_length, ← e, e2, List.drop_length, rowsV]
        have i3 : ¬ (xs.length : Int) < (ys.length : Int) := by omega
        clear e e2
        go_wp2
        go_ret
        exact ⟨by rw [unhide HE]; rfl, hbel⟩
theorem rows_any (aa ab : Option Addr) (ca cb : Nat) (xs ys : List Val) (w : World) (hla : xs.length ≤ maxLen) (hlb : ys.length ≤ maxLen) (ha : RowAt w aa xs) (hb : RowAt w ab ys) :
    Calls Tryz.prog 35 #[.slice aa xs.length ca, .slice ab ys.length cb] w fun e w' => e = .returned (.int .i64 (rowsV xs ys)) ∧ Below w.heap.size w w' := by
  have HC := hide (compare_any aa ab ca cb xs ys w hla hlb ha hb)
  clear ha hb hla hlb
  go_enter Tryz.func35, Tryz.ntmps35
  go_wp2_with (go_at_call 57; refine (unhide HC).mono ?_; rintro e w1 ⟨rfl, hb1⟩)
  go_ret
  exact ⟨rfl, hb1⟩

end Go.Proofs.YtcbenpodohjbiaaGreat
set_option linter.unusedSimpArgs false
set_option linter.unusedVariables false
set_option maxRecDepth 100000
namespace Go.Proofs.YtcbenpodohjbiaaGreat
open Go.RowKit Go.Sort

/-- What is sorted: a value, and two ghosts: the place where it stood at first, and the row that it says. -/
structure El where
  v : Value
  t : Nat
  r : List Val
def El.nil : El := ⟨.int .i64 0, 0, []⟩
/-- An order, to the place even. -/
structure Od where
  f : El → El → Int
  anti : ∀ x y, f x y = - f y x
  tr : ∀ x y z, f x y ≤ 0 → f y z ≤ 0 → f x z ≤ 0
theorem Od.self (o : Od) (x : El) : o.f x x = 0 := by have := o.anti x x; omega
theorem Od.le (o : Od) {x y z : El} (h1 : o.f x y ≤ 0) (h2 : o.f y z ≤ 0) : o.f x z ≤ 0 := o.tr x y z h1 h2
/-- The value at a place. -/
def atL (L : List El) (k : Nat) : El := L.getD k El.nil
theorem atL_of {L : List El} {k : Nat} {x : El} (h : L[k]? = some x) : atL L k = x := by unfold atL; rw [List.getD_eq_getElem?_getD, h]; rfl
theorem atL_some {L : List El} {k : Nat} (h : k < L.length) : L[k]? = some (atL L k) := by unfold atL; rw [List.getD_eq_getElem?_getD, List.getElem?_eq_getElem h]; rfl
/-- Two o places change their values. -/
def swapL (L : List El) (i j : Nat) : List El := (L.set i (atL L j)).set j (atL L i)
theorem swapL_at {L : List El} {i j : Nat} (hi : i < L.length) (hj : j < L.length) (k : Nat) : atL (swapL L i j) k = if k = j then atL L i else if k = i then atL L j else atL L k := by
  unfold swapL
  by_cases h1 : k = j
  · subst h1
    rw [if_pos rfl]
    exact atL_of (by rw [List.getElem?_set]; simp [hj])
  · rw [if_neg h1]
    by_cases h2 : k = i
    · subst h2
      rw [if_pos rfl]
      exact atL_of (by rw [List.getElem?_set, if_neg (Ne.symm h1), List.getElem?_set]; simp [hi])
    · rw [if_neg h2]
      show ((L.set i _).set j _).getD k El.nil = L.getD k El.nil
      rw [List.getD_eq_getElem?_getD, List.getD_eq_getElem?_getD, List.getElem?_set, if_neg (Ne.symm h1), List.getElem?_set, if_neg (Ne.symm h2)]
/-- L' is L with the places from a to b in another order. -/
structure PAB (a b : Nat) (L L' : List El) : Prop where
  perm : L'.Perm L
  out : ∀ k, k < a ∨ b ≤ k → atL L' k = atL L k
  ins : ∀ k, a ≤ k → k < b → ∃ j, a ≤ j ∧ j < b ∧ atL L' k = atL L j
theorem PAB.len {a b : Nat} {L L' : List El} (h : PAB a b L L') : L'.length = L.length := h.perm.length_eq
theorem PAB.refl (a b : Nat) (L : List El) : PAB a b L L := ⟨List.Perm.refl _, fun _ _ => rfl, fun k h1 h2 => ⟨k, h1, h2, rfl⟩⟩
theorem PAB.trans {a b : Nat} {L L' L'' : List El} (h : PAB a b L L') (h2 : PAB a b L' L'') : PAB a b L L'' :=
  ⟨h2.perm.trans h.perm, fun k hk => (h2.out k hk).trans (h.out k hk), fun k h3 h4 => by
    obtain ⟨j, h5, h6, h7⟩ := h2.ins k h3 h4
    obtain ⟨q, h8, h9, h10⟩ := h.ins j h5 h6
    exact ⟨q, h8, h9, h7.trans h10⟩⟩
theorem PAB.widen {a b a' b' : Nat} {L L' : List El} (h : PAB a b L L') (ha : a' ≤ a) (hb : b ≤ b') : PAB a' b' L L' :=
  ⟨h.perm, fun k hk => h.out k (by omega), fun k h3 h4 => by
    by_cases hk : a ≤ k ∧ k < b
    · obtain ⟨j, h5, h6, h7⟩ := h.ins k hk.1 hk.2
      exact ⟨j, by omega, by omega, h7⟩
    · exact ⟨k, h3, h4, h.out k (by omega)⟩⟩
theorem PAB.swap {a b i j : Nat} {L : List El} (hi : i < L.length) (hj : j < L.length) (h1 : a ≤ i) (h2 : i < b) (h3 : a ≤ j) (h4 : j < b) : PAB a b L (swapL L i j) := by
  refine ⟨?_, fun k hk => ?_, fun k h5 h6 => ?_⟩
  · have e1 := atL_some hi
    have e2 := atL_some hj
    have := List.set_set_perm hi hj
    rw [List.getElem?_eq_getElem hi] at e1
    rw [List.getElem?_eq_getElem hj] at e2
    injection e1 with e1
    injection e2 with e2
    rw [e1, e2] at this
    exact this
  · rw [swapL_at hi hj, if_neg (by omega), if_neg (by omega)]
  · rw [swapL_at hi hj]
    split
    · exact ⟨i, h1, h2, rfl⟩
    · split
      · exact ⟨j, h3, h4, rfl⟩
      · exact ⟨k, h5, h6, rfl⟩
/-- Rising from a to b. -/
def SAB (o : Od) (a b : Nat) (L : List El) : Prop := ∀ i j, a ≤ i → i < j → j < b → o.f (atL L i) (atL L j) ≤ 0
theorem SAB.one {o : Od} {a b : Nat} (h : b ≤ a + 1) (L : List El) : SAB o a b L := fun i j h1 h2 h3 => by omega
theorem SAB.le {o : Od} {a b : Nat} {L : List El} (h : SAB o a b L) {i j : Nat} (h1 : a ≤ i) (h2 : i ≤ j) (h3 : j < b) : o.f (atL L i) (atL L j) ≤ 0 := by
  by_cases e : i = j
  · subst e; rw [o.self]; omega
  · exact h i j h1 (by omega) h3
theorem SAB.out {o : Od} {a b c d : Nat} {L L' : List El} (h : SAB o a b L) (hp : PAB c d L L') (hd : b ≤ c ∨ d ≤ a) : SAB o a b L' := fun i j h1 h2 h3 => by
  rw [hp.out i (by omega), hp.out j (by omega)]
  exact h i j h1 h2 h3
/-- Halves that rise, the left one's values not above the right one's. -/
theorem SAB.join {o : Od} {a m b : Nat} {L : List El} (h1 : SAB o a m L) (h2 : SAB o m b L) (hx : ∀ i j, a ≤ i → i < m → m ≤ j → j < b → o.f (atL L i) (atL L j) ≤ 0) : SAB o a b L := fun i j h3 h4 h5 => by
  by_cases hj : j < m
  · exact h1 i j h3 h4 hj
  · by_cases hi : i < m
    · exact hx i j h3 hi (by omega) h5
    · exact h2 i j (by omega) h4 h5
theorem cross_keep {o : Od} {a m b : Nat} {L L' : List El} (hx : ∀ i j, a ≤ i → i < m → m ≤ j → j < b → o.f (atL L i) (atL L j) ≤ 0) (h : PAB a m L L' ∨ PAB m b L L') : ∀ i j, a ≤ i → i < m → m ≤ j → j < b → o.f (atL L' i) (atL L' j) ≤ 0 := fun i j h1 h2 h3 h4 => by
  rcases h with h | h
  · obtain ⟨q, h5, h6, h7⟩ := h.ins i h1 h2
    rw [h7, h.out j (by omega)]
    exact hx q j h5 h6 h3 h4
  · obtain ⟨q, h5, h6, h7⟩ := h.ins j h3 h4
    rw [h7, h.out i (by omega)]
    exact hx i q h1 h2 h5 h6
/-- The values from a to m and those from m to b change their places. -/
def rotF (f : Nat → El) (a m b : Nat) (k : Nat) : El := if k < a ∨ b ≤ k then f k else if k < a + (b - m) then f (k - a + m) else f (k - (b - m))
/-- The ranges from a and from b, of n each, change their places. -/
def swapF (f : Nat → El) (a b n : Nat) (k : Nat) : El := if a ≤ k ∧ k < a + n then f (k - a + b) else if b ≤ k ∧ k < b + n then f (k - b + a) else f k
theorem swapF_next (L : List El) (a b n : Nat) (f : Nat → El) (hab : a + (n + 1) ≤ b) (hb : b + n < L.length) (h : ∀ k, atL L k = swapF f a b n k) : ∀ k, atL (swapL L (a + n) (b + n)) k = swapF f a b (n + 1) k := by
  intro k
  rw [swapL_at (by omega) hb]
  unfold swapF at *
  by_cases h1 : k = b + n
  · subst h1
    rw [if_pos rfl, h, if_neg (by omega), if_neg (by omega), if_neg (by omega), if_pos (by omega)]
    congr 1
    omega
  · rw [if_neg h1]
    by_cases h2 : k = a + n
    · subst h2
      rw [if_pos rfl, h, if_neg (by omega), if_neg (by omega), if_pos (by omega)]
      congr 1
      omega
    · rw [if_neg h2, h]
      by_cases h3 : a ≤ k ∧ k < a + n
      · rw [if_pos h3, if_pos (by omega)]
      · rw [if_neg h3, if_neg (by omega : ¬ (a ≤ k ∧ k < a + (n + 1)))]
        by_cases h4 : b ≤ k ∧ k < b + n
        · rw [if_pos h4, if_pos (by omega)]
        · rw [if_neg h4, if_neg (by omega)]
theorem rot_left {f : Nat → El} {m i j : Nat} (hi : i ≤ m) (hij : j < i) (hj : 0 < j) : rotF (swapF f (m - i) m j) (m - i + j) m (m + j) = rotF f (m - i) m (m + j) := by
  funext k
  unfold rotF swapF
  by_cases h1 : k < m - i ∨ m + j ≤ k
  · rw [if_pos (by omega), if_neg (by omega), if_neg (by omega), if_pos h1]
  · rw [if_neg h1]
    by_cases h2 : k < m - i + j
    · rw [if_pos (by omega), if_pos (by omega), if_pos (by omega)]
    · rw [if_neg (by omega), if_neg (by omega : ¬ k < m - i + (m + j - m))]
      by_cases h3 : k < m - i + j + (m + j - m)
      · rw [if_pos h3, if_neg (by omega), if_pos (by omega)]
        congr 1
        omega
      · rw [if_neg h3, if_neg (by omega), if_neg (by omega)]
theorem rot_right {f : Nat → El} {m i j : Nat} (hi : i ≤ m) (hij : i < j) (h0 : 0 < i) : rotF (swapF f (m - i) (m + j - i) i) (m - i) m (m + (j - i)) = rotF f (m - i) m (m + j) := by
  funext k
  unfold rotF swapF
  by_cases h1 : k < m - i ∨ m + j ≤ k
  · rw [if_pos (by omega), if_neg (by omega), if_neg (by omega), if_pos h1]
  · rw [if_neg h1]
    by_cases h4 : m + j - i ≤ k
    · rw [if_pos (by omega), if_neg (by omega), if_pos (by omega), if_neg (by omega)]
      congr 1
      omega
    · rw [if_neg (by omega)]
      by_cases h2 : k < m - i + (m + (j - i) - m)
      · rw [if_pos h2, if_pos (by omega : k < m - i + (m + j - m))]
        by_cases h5 : m - i ≤ k - (m - i) + m ∧ k - (m - i) + m < m - i + i
        · omega
        · rw [if_neg h5, if_neg (by omega)]
      · rw [if_neg h2]
        by_cases h6 : k < m - i + (m + j - m)
        · rw [if_pos h6, if_pos (by omega)]
          congr 1
          omega
        · omega
theorem rot_same {f : Nat → El} {m i : Nat} (hi : i ≤ m) : swapF f (m - i) m i = rotF f (m - i) m (m + i) := by
  funext k
  unfold rotF swapF
  by_cases h1 : k < m - i ∨ m + i ≤ k
  · rw [if_neg (by omega), if_neg (by omega), if_pos h1]
  · rw [if_neg h1]
    by_cases h2 : k < m
    · rw [if_pos (by omega), if_pos (by omega)]
    · rw [if_neg (by omega), if_pos (by omega), if_neg (by omega)]
      congr 1
      omega
/-- The one at j is on its way down: all others from a to i rise, and it is not above those behind it. -/
def Down (o : Od) (a i j : Nat) (L : List El) : Prop := (∀ p q, a ≤ p → p < q → q ≤ i → p ≠ j → q ≠ j → o.f (atL L p) (atL L q) ≤ 0) ∧ ∀ q, j < q → q ≤ i → o.f (atL L j) (atL L q) ≤ 0
theorem Down.start {o : Od} {a i : Nat} {L : List El} (h : SAB o a i L) : Down o a i i L := ⟨fun p q h1 h2 h3 h4 h5 => h p q h1 h2 (by omega), fun q h1 h2 => by omega⟩
theorem Down.step {o : Od} {a i j : Nat} {L : List El} (h : Down o a i j L) (hj : a < j) (hji : j ≤ i) (hi : i < L.length) (hlt : o.f (atL L j) (atL L (j - 1)) < 0) : Down o a i (j - 1) (swapL L j (j - 1)) := by
  have hs := swapL_at (L := L) (i := j) (j := j - 1) (by omega) (by omega)
  refine ⟨fun p q h1 h2 h3 h4 h5 => ?_, fun q h1 h2 => ?_⟩
  · rw [hs, hs, if_neg h4, if_neg h5]
    by_cases e1 : p = j
    · rw [if_pos e1]
      by_cases e2 : q = j
      · omega
      · rw [if_neg e2]
        exact h.1 (j - 1) q (by omega) (by omega) h3 (by omega) e2
    · rw [if_neg e1]
      by_cases e2 : q = j
      · rw [if_pos e2]
        exact h.1 p (j - 1) h1 (by omega) (by omega) e1 (by omega)
      · rw [if_neg e2]
        exact h.1 p q h1 h2 h3 e1 e2
  · rw [hs, hs, if_pos rfl, if_neg (by omega)]
    by_cases e2 : q = j
    · rw [if_pos e2]
      omega
    · rw [if_neg e2]
      exact h.2 q (by omega) h2
theorem Down.stop {o : Od} {a i j : Nat} {L : List El} (h : Down o a i j L) (haj : a ≤ j) (hji : j ≤ i) (hs : j = a ∨ ¬ o.f (atL L j) (atL L (j - 1)) < 0) : SAB o a (i + 1) L := fun p q h1 h2 h3 => by
  by_cases e1 : p = j
  · subst e1; exact h.2 q h2 (by omega)
  · by_cases e2 : q = j
    · subst e2
      rcases hs with e | e
      · omega
      · have h4 := o.anti (atL L q) (atL L (q - 1))
        have h5 : o.f (atL L (q - 1)) (atL L q) ≤ 0 := by omega
        by_cases e3 : p = q - 1
        · rw [e3]; exact h5
        · exact o.le (h.1 p (q - 1) h1 (by omega) (by omega) e1 (by omega)) h5
    · exact h.1 p q h1 h2 (by omega) e1 e2
/-- The value of a has come to k, those between have come down by one. -/
def upF (f : Nat → El) (a k : Nat) (q : Nat) : El := if a ≤ q ∧ q < k then f (q + 1) else if q = k then f a else f q
theorem upF_start (f : Nat → El) (a : Nat) : upF f a a = f := by
  funext q
  unfold upF
  rw [if_neg (by omega)]
  split
  · rename_i h; rw [h]
  · rfl
theorem upF_next {L : List El} {f : Nat → El} {a k : Nat} (hak : a ≤ k) (hk : k + 1 < L.length) (h : ∀ q, atL L q = upF f a k q) : ∀ q, atL (swapL L k (k + 1)) q = upF f a (k + 1) q := by
  intro q
  rw [swapL_at (by omega) hk]
  unfold upF at *
  by_cases h1 : q = k + 1
  · rw [if_pos h1, h, if_neg (by omega), if_pos rfl, if_neg (by omega), if_pos h1]
  · rw [if_neg h1]
    by_cases h2 : q = k
    · rw [if_pos h2, h, if_neg (by omega), if_neg (by omega), if_pos (by omega), h2]
    · rw [if_neg h2, h]
      by_cases h3 : a ≤ q ∧ q < k
      · rw [if_pos h3, if_pos (by omega)]
      · rw [if_neg h3, if_neg h2, if_neg (by omega), if_neg h1]
theorem up_sorted {o : Od} {L L' : List El} {a b i : Nat} (hi : a + 1 ≤ i) (hib : i ≤ b) (hS : SAB o (a + 1) b L) (hlo : i = a + 1 ∨ o.f (atL L (i - 1)) (atL L a) < 0) (hhi : i = b ∨ ¬ o.f (atL L i) (atL L a) < 0) (h : ∀ q, atL L' q = upF (atL L) a (i - 1) q) : SAB o a b L' := by
  have lo : ∀ q, a + 1 ≤ q → q < i → o.f (atL L q) (atL L a) ≤ 0 := fun q h1 h2 => by
    rcases hlo with e | e
    · omega
    · exact o.le (hS.le h1 (by omega : q ≤ i - 1) (by omega)) (by omega)
  have hi' : ∀ q, i ≤ q → q < b → o.f (atL L a) (atL L q) ≤ 0 := fun q h1 h2 => by
    rcases hhi with e | e
    · omega
    · have := o.anti (atL L i) (atL L a)
      exact o.le (by omega) (hS.le hi h1 h2)
  intro p q h1 h2 h3
  rw [h p, h q]
  unfold upF
  by_cases p1 : a ≤ p ∧ p < i - 1
  · rw [if_pos p1]
    by_cases q1 : a ≤ q ∧ q < i - 1
    · rw [if_pos q1]; exact hS (p + 1) (q + 1) (by omega) (by omega) (by omega)
    · rw [if_neg q1]
      by_cases q2 : q = i - 1
      · rw [if_pos q2]; exact lo (p + 1) (by omega) (by omega)
      · rw [if_neg q2]; exact hS (p + 1) q (by omega) (by omega) h3
  · rw [if_neg p1]
    by_cases p2 : p = i - 1
    · rw [if_pos p2, if_neg (by omega), if_neg (by omega)]
      exact hi' q (by omega) h3
    · rw [if_neg p2, if_neg (by omega), if_neg (by omega)]
      exact hS p q (by omega) h2 h3
/-- The value of m has come down to k, those between have gone up by one. -/
def dnF (f : Nat → El) (m k : Nat) (q : Nat) : El := if k < q ∧ q ≤ m then f (q - 1) else if q = k then f m else f q
theorem dnF_start (f : Nat → El) (m : Nat) : dnF f m m = f := by
  funext q
  unfold dnF
  rw [if_neg (by omega)]
  split
  · rename_i h; rw [h]
  · rfl
theorem dnF_next {L : List El} {f : Nat → El} {m k : Nat} (hk : 0 < k) (hkm : k ≤ m) (hm : m < L.length) (h : ∀ q, atL L q = dnF f m k q) : ∀ q, atL (swapL L k (k - 1)) q = dnF f m (k - 1) q := by
  intro q
  rw [swapL_at (by omega) (by omega)]
  unfold dnF at *
  by_cases h1 : q = k - 1
  · rw [if_pos h1, h, if_neg (by omega), if_pos rfl, if_neg (by omega), if_pos h1]
  · rw [if_neg h1]
    by_cases h2 : q = k
    · rw [if_pos h2, h, if_neg (by omega), if_neg (by omega), if_pos (by omega), h2]
    · rw [if_neg h2, h]
      by_cases h3 : k < q ∧ q ≤ m
      · rw [if_pos h3, if_pos (by omega)]
      · rw [if_neg h3, if_neg h2, if_neg (by omega), if_neg h1]
theorem dn_sorted {o : Od} {L L' : List El} {a m i : Nat} (hi : a ≤ i) (him : i ≤ m) (hS : SAB o a m L) (hlo : i = a ∨ o.f (atL L (i - 1)) (atL L m) ≤ 0) (hhi : i = m ∨ o.f (atL L m) (atL L i) < 0) (h : ∀ q, atL L' q = dnF (atL L) m i q) : SAB o a (m + 1) L' := by
  have lo : ∀ q, a ≤ q → q < i → o.f (atL L q) (atL L m) ≤ 0 := fun q h1 h2 => by
    rcases hlo with e | e
    · omega
    · exact o.le (hS.le h1 (by omega : q ≤ i - 1) (by omega)) (by omega)
  have hi' : ∀ q, i ≤ q → q < m → o.f (atL L m) (atL L q) ≤ 0 := fun q h1 h2 => by
    rcases hhi with e | e
    · omega
    · exact o.le (by omega) (hS.le hi h1 h2)
  intro p q h1 h2 h3
  rw [h p, h q]
  unfold dnF
  by_cases q1 : i < q ∧ q ≤ m
  · rw [if_pos q1]
    by_cases p1 : i < p ∧ p ≤ m
    · rw [if_pos p1]; exact hS (p - 1) (q - 1) (by omega) (by omega) (by omega)
    · rw [if_neg p1]
      by_cases p2 : p = i
      · rw [if_pos p2]; exact hi' (q - 1) (by omega) (by omega)
      · rw [if_neg p2]; exact hS p (q - 1) h1 (by omega) (by omega)
  · rw [if_neg q1, if_neg (by omega : ¬ (i < p ∧ p ≤ m)), if_neg (by omega : ¬ p = i)]
    by_cases q2 : q = i
    · rw [if_pos q2]; exact lo p h1 (by omega)
    · rw [if_neg q2]; exact hS p q h1 h2 (by omega)
/-- The halves behind the turn. -/
theorem sym_cross {o : Od} {L L' : List El} {a m b mid s e s0 r0 : Nat} (hm : mid = (a + b) / 2) (ham : a < m) (hmb : m < b) (he : e + s = mid + m) (hs0 : s0 ≤ s) (hsr : s ≤ r0)
    (hcase : (mid < m ∧ s0 + b = mid + m ∧ r0 = mid) ∨ (m ≤ mid ∧ s0 = a ∧ r0 = m)) (hS1 : SAB o a m L) (hS2 : SAB o m b L)
    (hlo : s = s0 ∨ o.f (atL L (s - 1)) (atL L e) ≤ 0) (hhi : s = r0 ∨ o.f (atL L (e - 1)) (atL L s) < 0) (hL : ∀ q, atL L' q = rotF (atL L) s m e q) :
    (SAB o a s L' ∧ SAB o s mid L') ∧ (SAB o mid e L' ∧ SAB o e b L') ∧ ∀ i j, a ≤ i → i < mid → mid ≤ j → j < b → o.f (atL L' i) (atL L' j) ≤ 0 := by
  have l1 : ∀ q, q < s → atL L' q = atL L q := fun q h1 => by rw [hL, rotF, if_pos (.inl h1)]
  have l2 : ∀ q, s ≤ q → q < mid → atL L' q = atL L (q - s + m) := fun q h1 h2 => by rw [hL, rotF, if_neg (by omega), if_pos (by omega)]
  have l3 : ∀ q, mid ≤ q → q < e → atL L' q = atL L (q - (e - m)) := fun q h1 h2 => by rw [hL, rotF, if_neg (by omega), if_neg (by omega)]
  have l4 : ∀ q, e ≤ q → atL L' q = atL L q := fun q h1 => by rw [hL, rotF, if_pos (.inr h1)]
  refine ⟨⟨fun i j h1 h2 h3 => ?_, fun i j h1 h2 h3 => ?_⟩, ⟨fun i j h1 h2 h3 => ?_, fun i j h1 h2 h3 => ?_⟩, fun i j h1 h2 h3 h4 => ?_⟩
  · rw [l1 i (by omega), l1 j h3]; exact hS1 i j h1 h2 (by omega)
  · rw [l2 i h1 (by omega), l2 j (by omega) h3]; exact hS2 _ _ (by omega) (by omega) (by omega)
  · rw [l3 i h1 (by omega), l3 j (by omega) h3]; exact hS1 _ _ (by omega) (by omega) (by omega)
  · rw [l4 i h1, l4 j (by omega)]; exact hS2 i j (by omega) h2 h3
  · by_cases hi : i < s
    · rw [l1 i hi]
      by_cases hj : j < e
      · rw [l3 j h3 hj]; exact hS1 i _ h1 (by omega) (by omega)
      · rw [l4 j (by omega)]
        rcases hlo with e1 | e1
        · omega
        · exact o.le (hS1.le h1 (by omega : i ≤ s - 1) (by omega)) (o.le e1 (hS2.le (by omega) (by omega : e ≤ j) h4))
    · rw [l2 i (by omega) h2]
      by_cases hj : j < e
      · rw [l3 j h3 hj]
        rcases hhi with e1 | e1
        · omega
        · exact o.le (hS2.le (by omega) (by omega : i - s + m ≤ e - 1) (by omega)) (o.le (by omega) (hS1.le (by omega) (by omega : s ≤ j - (e - m)) (by omega)))
      · rw [l4 j (by omega)]; exact hS2 _ j (by omega) (by omega) h4
theorem rot_none {f : Nat → El} {s m e : Nat} (h : s ≤ m) (h2 : m ≤ e) (hn : ¬ (s < m ∧ m < e)) : ∀ q, f q = rotF f s m e q := by
  intro q
  unfold rotF
  by_cases h1 : q < s ∨ e ≤ q
  · rw [if_pos h1]
  · rw [if_neg h1]
    by_cases h3 : q < s + (e - m)
    · rw [if_pos h3]; congr 1; omega
    · rw [if_neg h3]; congr 1; omega
theorem sym_end {o : Od} {L L1 L2 L3 : List El} {a b mid : Nat} (h1 : a ≤ mid) (h2 : mid ≤ b) (p1 : PAB a b L L1) (hx : ∀ i j, a ≤ i → i < mid → mid ≤ j → j < b → o.f (atL L1 i) (atL L1 j) ≤ 0) (p2 : PAB a mid L1 L2) (s2 : SAB o a mid L2) (p3 : PAB mid b L2 L3) (s3 : SAB o mid b L3) : PAB a b L L3 ∧ SAB o a b L3 :=
  ⟨(p1.trans (p2.widen (Nat.le_refl _) h2)).trans (p3.widen h1 (Nat.le_refl _)), (s2.out p3 (.inl (Nat.le_refl _))).join s3 (cross_keep (cross_keep hx (.inl p2)) (.inr p3))⟩
theorem SAB.left {o : Od} {a s m : Nat} {L : List El} (h1 : SAB o a s L) (h2 : SAB o s m L) (h3 : a ≤ s) (h4 : s ≤ m) (hn : ¬ (a < s ∧ s < m)) : SAB o a m L := by
  by_cases e : a = s
  · rw [e]; exact h2
  · have : s = m := by omega
    rw [← this]; exact h1
/-- All of the left stood ahead of all of the right. -/
def TG (a m b : Nat) (L : List El) : Prop := ∀ i j, a ≤ i → i < m → m ≤ j → j < b → (atL L i).t < (atL L j).t
theorem tg_cross {L L' : List El} {a m b mid s e : Nat} (hG : TG a m b L) (h1 : a ≤ s) (h2 : s ≤ m) (h3 : s ≤ mid) (h4 : m ≤ e) (h5 : mid ≤ e) (h6 : e ≤ b) (he : e + s = mid + m) (hL : ∀ q, atL L' q = rotF (atL L) s m e q) : TG a s mid L' ∧ TG mid e b L' := by
  have l1 : ∀ q, q < s → atL L' q = atL L q := fun q h1 => by rw [hL, rotF, if_pos (.inl h1)]
  have l2 : ∀ q, s ≤ q → q < mid → atL L' q = atL L (q - s + m) := fun q h1 h2 => by rw [hL, rotF, if_neg (by omega), if_pos (by omega)]
  have l3 : ∀ q, mid ≤ q → q < e → atL L' q = atL L (q - (e - m)) := fun q h1 h2 => by rw [hL, rotF, if_neg (by omega), if_neg (by omega)]
  have l4 : ∀ q, e ≤ q → atL L' q = atL L q := fun q h1 => by rw [hL, rotF, if_pos (.inr h1)]
  refine ⟨fun i j q1 q2 q3 q4 => ?_, fun i j q1 q2 q3 q4 => ?_⟩
  · rw [l1 i q2, l2 j q3 q4]; exact hG i _ q1 (by omega) (by omega) (by omega)
  · rw [l3 i q1 q2, l4 j q3]; exact hG _ j (by omega) (by omega) (by omega) q4
theorem TG.out {a m b c d : Nat} {L L' : List El} (h : TG a m b L) (hp : PAB c d L L') (hd : b ≤ c ∨ d ≤ a) : TG a m b L' := fun i j h1 h2 h3 h4 => by
  rw [hp.out i (by omega), hp.out j (by omega)]
  exact h i j h1 h2 h3 h4
/-- While it is inserted: what is ahead of i stood ahead of what follows, and that is where it was. -/
def InsG (a b i : Nat) (L L' : List El) : Prop := TG a i b L' ∧ ∀ q, i ≤ q → atL L' q = atL L q
theorem InsG.start {a b : Nat} {L : List El} (hI : ∀ i j, a ≤ i → i < j → j < b → (atL L i).t < (atL L j).t) : InsG a b (a + 1) L L := ⟨fun i j h1 h2 h3 h4 => hI i j h1 (by omega) h4, fun _ _ => rfl⟩
theorem InsG.next {a b i : Nat} {L L' M : List El} (hI : ∀ i j, a ≤ i → i < j → j < b → (atL L i).t < (atL L j).t) (hai : a ≤ i) (h : InsG a b i L L') (hp : PAB a (i + 1) L' M) : InsG a b (i + 1) L M := by
  refine ⟨fun p q h1 h2 h3 h4 => ?_, fun q h1 => by rw [hp.out q (.inr h1)]; exact h.2 q (by omega)⟩
  obtain ⟨r, h5, h6, h7⟩ := hp.ins p h1 h2
  rw [h7, hp.out q (.inr h3)]
  by_cases e : r = i
  · rw [e, h.2 i (Nat.le_refl _), h.2 q (by omega)]
    exact hI i q hai (by omega) h4
  · exact h.1 r q h5 (by omega) (by omega) h4
/-- What stands there stood there. -/
def TR (a b : Nat) (L : List El) : Prop := ∀ k, a ≤ k → k < b → a ≤ (atL L k).t ∧ (atL L k).t < b
def BS (o : Od) (a b : Nat) (L : List El) : Prop := SAB o a b L ∧ TR a b L
theorem BS.nil {o : Od} {a b : Nat} (h : b ≤ a) (L : List El) : BS o a b L := ⟨SAB.one (by omega) L, fun k h1 h2 => by omega⟩
theorem BS.out {o : Od} {a b c d : Nat} {L L' : List El} (h : BS o a b L) (hp : PAB c d L L') (hd : b ≤ c ∨ d ≤ a) : BS o a b L' := ⟨h.1.out hp hd, fun k h1 h2 => by rw [hp.out k (by omega)]; exact h.2 k h1 h2⟩
theorem TR.both {a m b : Nat} {L L' : List El} (h1 : TR a m L) (h2 : TR m b L) (ham : a ≤ m) (hmb : m ≤ b) (hp : PAB a b L L') : TR a b L' := fun k h3 h4 => by
  obtain ⟨j, h5, h6, h7⟩ := hp.ins k h3 h4
  rw [h7]
  by_cases h8 : j < m
  · have := h1 j h5 h8; omega
  · have := h2 j (by omega) h6; omega
theorem TR.tg {a m b : Nat} {L : List El} (h1 : TR a m L) (h2 : TR m b L) : TG a m b L := fun i j h3 h4 h5 h6 => by
  have := h1 i h3 h4
  have := h2 j h5 h6
  omega
theorem TR.first {a b : Nat} {L L' : List El} (h : ∀ k, a ≤ k → k < b → (atL L k).t = k) (hp : PAB a b L L') : TR a b L' := fun k h1 h2 => by
  obtain ⟨j, h5, h6, h7⟩ := hp.ins k h1 h2
  rw [h7, h j h5 h6]
  omega
theorem dvd_next {z a c : Nat} (h1 : z ∣ a) (h2 : z ∣ c) (h : a < c) : a + z ≤ c := by
  obtain ⟨p, rfl⟩ := h1
  obtain ⟨q, rfl⟩ := h2
  have : p < q := by
    rcases Nat.lt_or_ge p q with h3 | h3
    · exact h3
    · have := Nat.mul_le_mul_left z h3
      omega
  have := Nat.mul_le_mul_left z this
  rw [Nat.succ_eq_add_one, Nat.mul_add, Nat.mul_one] at this
  exact this
/-- Every block of z rises. -/
def Blk (o : Od) (z n : Nat) (L : List El) : Prop := ∀ c, z ∣ c → c < n → BS o c (min (c + z) n) L
/-- Blocks of y ahead of a rise, and those of z from a on. -/
def Two (o : Od) (y z n a : Nat) (L : List El) : Prop := (∀ c, y ∣ c → c < a → BS o c (c + y) L) ∧ ∀ c, z ∣ c → a ≤ c → c < n → BS o c (min (c + z) n) L
theorem Two.start {o : Od} {y z n : Nat} {L : List El} (h : Blk o z n L) : Two o y z n 0 L := ⟨fun c _ h2 => by omega, fun c h1 _ h3 => h c h1 h3⟩
theorem Two.step {o : Od} {y z n a : Nat} {L L' : List El} (h : Two o y z n a L) (hy : 0 < y) (ha : y ∣ a) (hp : PAB a (a + y) L L') (hs : BS o a (a + y) L') : Two o y z n (a + y) L' := by
  refine ⟨fun c h1 h2 => ?_, fun c h1 h2 h3 => (h.2 c h1 (by omega) h3).out hp (.inr h2)⟩
  by_cases e : c < a
  · exact (h.1 c h1 e).out hp (.inl (dvd_next h1 ha e))
  · have : c = a := by
      rcases Nat.lt_or_ge a c with h4 | h4
      · have := dvd_next ha h1 h4; omega
      · omega
    rw [this]; exact hs
theorem Two.done {o : Od} {y n a : Nat} {L : List El} (h : ∀ c, y ∣ c → c < a → BS o c (c + y) L) (ha : y ∣ a) (han : a ≤ n) (hb : n < a + y) (hs : BS o a n L) : Blk o y n L := fun c h1 h2 => by
  by_cases e : c < a
  · have := dvd_next h1 ha e
    rw [Nat.min_eq_left (by omega)]
    exact h c h1 e
  · have : c = a := by
      rcases Nat.lt_or_ge a c with h4 | h4
      · have := dvd_next ha h1 h4; omega
      · omega
    rw [this, Nat.min_eq_right (by omega)]
    exact hs
theorem Two.out {o : Od} {y z n a n' : Nat} {L L' : List El} (h : Two o y z n a L) (ha : y ∣ a) (hp : PAB a n' L L') : ∀ c, y ∣ c → c < a → BS o c (c + y) L' := fun c h1 h2 => (h.1 c h1 h2).out hp (.inl (dvd_next h1 ha h2))

end Go.Proofs.YtcbenpodohjbiaaGreat
set_option linter.unusedSimpArgs false
set_option linter.unusedVariables false
namespace Go.Proofs.YtcbenpodohjbiaaGreat
open Go.RowKit Go.Sort

/-- Keys: a column, and whether it falls. -/
def KeysAt (w : World) (a : Option Addr) (l : List (Int × Bool)) : Prop := l = [] ∨ ∃ b off, a = some ⟨b, off, none⟩ ∧ ∀ i x, l[i]? = some x → w.cell? ⟨b, off + i * 2, none⟩ = some (.int .i64 x.1) ∧ w.cell? ⟨b, off + i * 2 + 1, none⟩ = some (.bool x.2)
theorem KeysAt.later {w w' : World} {a : Option Addr} {l : List (Int × Bool)} (h : KeysAt w a l) (hb : Below w.heap.size w w') : KeysAt w' a l := by
  rcases h with h | ⟨b, off, ha, h⟩
  · exact .inl h
  · exact .inr ⟨b, off, ha, fun i x hx => ⟨clater (h i x hx).1 hb, clater (h i x hx).2 hb⟩⟩
theorem KeysAt.get {w : World} {a : Option Addr} {l : List (Int × Bool)} {i : Nat} {x : Int × Bool} (h : KeysAt w a l) (hx : l[i]? = some x) : ∃ b off, a = some ⟨b, off, none⟩ ∧ w.cell? ⟨b, off + i * 2, none⟩ = some (.int .i64 x.1) ∧ w.cell? ⟨b, off + i * 2 + 1, none⟩ = some (.bool x.2) := by
  rcases h with h | ⟨b, off, ha, h⟩
  · rw [h] at hx; simp at hx
  · exact ⟨b, off, ha, h i x hx⟩
end Go.Proofs.YtcbenpodohjbiaaGreat
set_option linter.unusedSimpArgs false
set_option linter.unusedVariables false
namespace Go.Proofs.YtcbenpodohjbiaaGreat
open Go.RowKit Go.Sort

/-! What a function value needs: the blocks from lo on, but those of N. -/
structure Kept (lo : Nat) (N : List Nat) (w w' : World) : Prop where
  size : w.heap.size ≤ w'.heap.size
  block : ∀ b, lo ≤ b → b < w.heap.size → b ∉ N → w'.heap[b]? = w.heap[b]?
theorem Kept.refl (lo : Nat) (N : List Nat) (w : World) : Kept lo N w w := ⟨Nat.le_refl _, fun _ _ _ _ => rfl⟩
theorem Kept.trans {lo : Nat} {N : List Nat} {w w' w'' : World} (h : Kept lo N w w') (h' : Kept lo N w' w'') : Kept lo N w w'' :=
  ⟨Nat.le_trans h.size h'.size, fun b h1 h2 h3 => (h'.block b h1 (Nat.lt_of_lt_of_le h2 h.size) h3).trans (h.block b h1 h2 h3)⟩
theorem Kept.of_below {w w' : World} (lo : Nat) (N : List Nat) (h : Below w.heap.size w w') : Kept lo N w w' := ⟨h.size, fun b _ h2 _ => h.block b h2⟩
theorem Kept.cell {lo : Nat} {N : List Nat} {w w' : World} {b o : Nat} {v : Value} (h : w.cell? ⟨b, o, none⟩ = some v) (hk : Kept lo N w w') (h1 : lo ≤ b) (h3 : b ∉ N) : w'.cell? ⟨b, o, none⟩ = some v := by
  have hl := World.block_lt_of_cell? _ _ h
  rw [← h]
  unfold World.cell?
  rw [hk.block b h1 hl h3]
end Go.Proofs.YtcbenpodohjbiaaGreat
