import Derived.Test.YthbfomcmjjnikaaGreatRdR
import Derived.Test.YthbfomcmjjnikaaGreatPackVa
set_option linter.unusedSimpArgs false
set_option linter.unusedVariables false
namespace Go.Proofs.YthbfomcmjjnikaaGreat
open Go.RowKit Go.Sort

theorem clean_clean (x : Val) : cleanV (cleanV x) = cleanV x := by
  unfold cleanV
  rcases Bool.eq_false_or_eq_true (x.k == 1) with h1 | h1 <;> rcases Bool.eq_false_or_eq_true (x.k == 2) with h2 | h2 <;> simp [h1, h2, Val.num, Val.str, Val.null]
theorem clean_cases (x : Val) : cleanV x = .null ∨ cleanV x = .num x.n ∨ cleanV x = .str x.s := by
  unfold cleanV
  split
  · exact .inr (.inl rfl)
  · split
    · exact .inr (.inr rfl)
    · exact .inl rfl
theorem clean_shape {y : Val} (h : cleanV y = y) : y = .null ∨ (∃ n, y = .num n) ∨ ∃ s, y = .str s := by
  rcases clean_cases y with e | e | e
  · exact .inl (h.symm.trans e)
  · exact .inr (.inl ⟨_, h.symm.trans e⟩)
  · exact .inr (.inr ⟨_, h.symm.trans e⟩)
theorem large_le {s : ByteArray} : largeB s = false ↔ s.size ≤ 1000 := by
  unfold largeB
  rw [decide_eq_false_iff_not]
  omega
theorem zip_map2 {α β γ : Type} (f : α → β) (g : α → γ) (l : List α) : (l.map f).zip (l.map g) = l.map fun x => (f x, g x) := by
  induction l with
  | nil => rfl
  | cons a l ih => simp [ih]
theorem laid_good {kind : Int} {ys : List Val} (hk : kind = 1 ∨ kind = 2) (hc : ∀ y ∈ ys, cleanV y = y) (hb : ∀ y ∈ ys, badK kind y = false) (hl : ∀ y ∈ ys, largeB y.s = false) : goodB (laidV kind ys) = true := by
  rcases hk with rfl | rfl
  · unfold goodB laidV
    simp only [beq_self_eq_true, if_true, znN, nlOf, zip_map2, List.length_map, Bool.and_eq_true, Bool.not_eq_true', List.length_nil]
    refine ⟨trivial, trivial, ?_⟩
    rw [List.any_eq_false]
    intro p hp
    obtain ⟨y, hy, rfl⟩ := List.mem_map.1 hp
    rcases clean_shape (hc y hy) with rfl | ⟨n, rfl⟩ | ⟨s, rfl⟩ <;> simp [badN, Val.null, Val.num, Val.str]
  · have e1 : ((2 : Int) == 1) = false := rfl
    have e2 : ¬ (2 : Int) = 1 := by decide
    unfold goodB laidV
    simp only [e1, Bool.false_eq_true, beq_self_eq_true, if_true, if_false, e2, znS, nlOf, zip_map2, List.length_map, Bool.and_eq_true, Bool.not_eq_true', List.length_nil]
    refine ⟨⟨trivial, trivial, ?_⟩, ?_⟩
    · rw [List.any_eq_false]
      intro p hp
      obtain ⟨y, hy, rfl⟩ := List.mem_map.1 hp
      rcases clean_shape (hc y hy) with rfl | ⟨n, rfl⟩ | ⟨s, rfl⟩
      · simp [badS, Val.null]
      · simp [badS, Val.num]
      · simp [badS, Val.str]
    · rw [List.any_eq_false]
      intro s hs
      obtain ⟨y, hy, rfl⟩ := List.mem_map.1 hs
      simp [hl y hy]
theorem laid_vals {kind : Int} {ys : List Val} (hk : kind = 1 ∨ kind = 2) (hc : ∀ y ∈ ys, cleanV y = y) (hb : ∀ y ∈ ys, badK kind y = false) (hl : ∀ y ∈ ys, largeB y.s = false) : valsV (laidV kind ys) = ys := by
  have hg := laid_good hk hc hb hl
  apply List.ext_getElem?
  intro i
  by_cases hi : i < ys.length
  · rw [vals_at hg (by simpa [laidV, nlOf] using hi), List.getElem?_eq_getElem hi]
    congr 1
    have hm := List.getElem_mem hi
    have hcl := hc _ hm
    have hbd := hb _ hm
    generalize hy : ys[i] = y at *
    have hgt : ys[i]? = some y := by rw [List.getElem?_eq_getElem hi, hy]
    unfold atV
    rcases hk with rfl | rfl
    · rcases clean_shape hcl with rfl | ⟨n, rfl⟩ | ⟨s, rfl⟩
      · simp [laidV, nlOf, hgt, List.getD_eq_getElem?_getD, Val.null]
      · simp [laidV, nlOf, hgt, List.getD_eq_getElem?_getD, Val.num]
      · simp [badK, Val.str] at hbd
    · rcases clean_shape hcl with rfl | ⟨n, rfl⟩ | ⟨s, rfl⟩
      · simp [laidV, nlOf, hgt, List.getD_eq_getElem?_getD, Val.null]
      · simp [badK, Val.num] at hbd
      · simp [laidV, nlOf, hgt, List.getD_eq_getElem?_getD, Val.str]
  · rw [List.getElem?_eq_none (by rw [vals_len hg]; simp [laidV, nlOf]; omega), List.getElem?_eq_none (by omega)]
/-- What From makes of values that fit. -/
theorem from_ok {kind : Int} {xs : List Val} {X : Vc} (h : fromV kind xs = (X, 0)) : goodB X = true ∧ X.k = kind ∧ valsV X = xs.map cleanV ∧ fromV X.k (valsV X) = (X, 0) ∧ X.nl.length = xs.length ∧ X.ns.length ≤ xs.length ∧ X.ss.length ≤ xs.length ∧ ((∀ x ∈ xs, -9223372036854775808 ≤ x.n ∧ x.n ≤ 9223372036854775807) → ∀ n ∈ X.ns, -9223372036854775808 ≤ n ∧ n ≤ 9223372036854775807) := by
  unfold fromV at h
  split at h
  · injection h with _ h; cases h
  rename_i hk
  split at h
  · injection h with _ h; cases h
  rename_i hb
  split at h
  · injection h with _ h; cases h
  rename_i hl
  injection h with h _
  subst h
  have hk2 : kind = 1 ∨ kind = 2 := by
    cases hkk : kindB kind
    · exact absurd hkk hk
    · unfold kindB at hkk; simpa using hkk
  have hc : ∀ y ∈ xs.map cleanV, cleanV y = y := fun y hy => by
    obtain ⟨x, _, rfl⟩ := List.mem_map.1 hy
    exact clean_clean x
  have hb2 : ∀ y ∈ xs.map cleanV, badK kind y = false := fun y hy => by
    cases hbb : badK kind y
    · rfl
    · exact absurd (List.any_eq_true.2 ⟨y, hy, hbb⟩) hb
  have hl2 : ∀ y ∈ xs.map cleanV, largeB y.s = false := fun y hy => by
    cases hbb : largeB y.s
    · rfl
    · exact absurd (List.any_eq_true.2 ⟨y, hy, hbb⟩) hl
  have hv := laid_vals hk2 hc hb2 hl2
  have ec : (xs.map cleanV).map cleanV = xs.map cleanV := by
    conv => rhs; rw [← List.map_id (xs.map cleanV)]
    exact List.map_congr_left fun y hy => hc y hy
  refine ⟨laid_good hk2 hc hb2 hl2, rfl, hv, ?_, by simp [laidV, nlOf], ?_, ?_, ?_⟩
  · rw [hv]
    show fromV kind (xs.map cleanV) = _
    unfold fromV
    rw [if_neg hk, ec, if_neg hb, if_neg hl]
  · simp only [laidV]; split <;> simp
  · simp only [laidV]; split <;> simp
  · intro hr n hn
    simp only [laidV] at hn
    split at hn
    · obtain ⟨y, hy, rfl⟩ := List.mem_map.1 hn
      obtain ⟨x, hx, rfl⟩ := List.mem_map.1 hy
      rcases clean_cases x with e | e | e
      · rw [e]; decide
      · rw [e]; exact hr x hx
      · rw [e]; show -9223372036854775808 ≤ (0 : Int) ∧ (0 : Int) ≤ 9223372036854775807; decide
    · cases hn
theorem from_bad {kind : Int} {xs : List Val} (h : (fromV kind xs).2 ≠ 0) : (fromV kind xs).1 = .zero := by
  unfold fromV at h ⊢
  split
  · rfl
  · split
    · rfl
    · split
      · rfl
      · rename_i h1 h2 h3
        rw [if_neg h1, if_neg h2, if_neg h3] at h
        exact absurd rfl h
end Go.Proofs.YthbfomcmjjnikaaGreat
set_option linter.unusedSimpArgs false
set_option linter.unusedVariables false
namespace Go.Proofs.YthbfomcmjjnikaaGreat
open Go.RowKit Go.Sort

/-- The value at a place. -/
def atL (L : List Val) (k : Nat) : Val := L.getD k Val.null
theorem atL_of {L : List Val} {k : Nat} {x : Val} (h : L[k]? = some x) : atL L k = x := by unfold atL; rw [List.getD_eq_getElem?_getD, h]; rfl
theorem atL_some {L : List Val} {k : Nat} (h : k < L.length) : L[k]? = some (atL L k) := by unfold atL; rw [List.getD_eq_getElem?_getD, List.getElem?_eq_getElem h]; rfl
/-- Two places change their values. -/
def swapL (L : List Val) (i j : Nat) : List Val := (L.set i (atL L j)).set j (atL L i)
theorem swapL_len (L : List Val) (i j : Nat) : (swapL L i j).length = L.length := by simp [swapL]
theorem swapL_at {L : List Val} {i j : Nat} (hi : i < L.length) (hj : j < L.length) (k : Nat) : atL (swapL L i j) k = if k = j then atL L i else if k = i then atL L j else atL L k := by
  unfold swapL
  by_cases h1 : k = j
  · subst h1
    rw [if_pos rfl]
    exact atL_of (by rw [List.getElem?_set]; simp [hj])
  · rw [if_neg h1]
    by_cases h2 : k = i
    · subst h2
      rw [if_pos rfl]
      exact atL_of (by rw [List.getElem?_set, if_neg (Ne.symm h1), List.getElem?_set]; simp [hi])
    · rw [if_neg h2]
      show ((L.set i _).set j _).getD k Val.null = L.getD k Val.null
      rw [List.getD_eq_getElem?_getD, List.getD_eq_getElem?_getD, List.getElem?_set, if_neg (Ne.symm h1), List.getElem?_set, if_neg (Ne.symm h2)]
/-- L' is L with the places from a to b in another order. -/
structure PAB (a b : Nat) (L L' : List Val) : Prop where
  perm : L'.Perm L
  out : ∀ k, k < a ∨ b ≤ k → atL L' k = atL L k
  ins : ∀ k, a ≤ k → k < b → ∃ j, a ≤ j ∧ j < b ∧ atL L' k = atL L j
theorem PAB.len {a b : Nat} {L L' : List Val} (h : PAB a b L L') : L'.length = L.length := h.perm.length_eq
theorem PAB.refl (a b : Nat) (L : List Val) : PAB a b L L := ⟨List.Perm.refl _, fun _ _ => rfl, fun k h1 h2 => ⟨k, h1, h2, rfl⟩⟩
theorem PAB.trans {a b : Nat} {L L' L'' : List Val} (h : PAB a b L L') (h2 : PAB a b L' L'') : PAB a b L L'' :=
  ⟨h2.perm.trans h.perm, fun k hk => (h2.out k hk).trans (h.out k hk), fun k h3 h4 => by
    obtain ⟨j, h5, h6, h7⟩ := h2.ins k h3 h4
    obtain ⟨q, h8, h9, h10⟩ := h.ins j h5 h6
    exact ⟨q, h8, h9, h7.trans h10⟩⟩
theorem PAB.widen {a b a' b' : Nat} {L L' : List Val} (h : PAB a b L L') (ha : a' ≤ a) (hb : b ≤ b') : PAB a' b' L L' :=
  ⟨h.perm, fun k hk => h.out k (by omega), fun k h3 h4 => by
    by_cases hk : a ≤ k ∧ k < b
    · obtain ⟨j, h5, h6, h7⟩ := h.ins k hk.1 hk.2
      exact ⟨j, by omega, by omega, h7⟩
    · exact ⟨k, h3, h4, h.out k (by omega)⟩⟩
theorem PAB.swap {a b i j : Nat} {L : List Val} (hi : i < L.length) (hj : j < L.length) (h1 : a ≤ i) (h2 : i < b) (h3 : a ≤ j) (h4 : j < b) : PAB a b L (swapL L i j) := by
  refine ⟨?_, fun k hk => ?_, fun k h5 h6 => ?_⟩
  · have e1 := atL_some hi
    have e2 := atL_some hj
    have := List.set_set_perm hi hj
    rw [List.getElem?_eq_getElem hi] at e1
    rw [List.getElem?_eq_getElem hj] at e2
    injection e1 with e1
    injection e2 with e2
    rw [e1, e2] at this
    exact this
  · rw [swapL_at hi hj, if_neg (by omega), if_neg (by omega)]
  · rw [swapL_at hi hj]
    split
    · exact ⟨i, h1, h2, rfl⟩
    · split
      · exact ⟨j, h3, h4, rfl⟩
      · exact ⟨k, h5, h6, rfl⟩
/-- Rising from a to b. -/
def SAB (a b : Nat) (L : List Val) : Prop := ∀ i j, a ≤ i → i < j → j < b → ordV (atL L i) (atL L j) ≤ 0
theorem SAB.one {a b : Nat} (h : b ≤ a + 1) (L : List Val) : SAB a b L := fun i j h1 h2 h3 => by omega
theorem SAB.le {a b : Nat} {L : List Val} (h : SAB a b L) {i j : Nat} (h1 : a ≤ i) (h2 : i ≤ j) (h3 : j < b) : ordV (atL L i) (atL L j) ≤ 0 := by
  by_cases e : i = j
  · subst e; rw [ord_self]; omega
  · exact h i j h1 (by omega) h3
theorem SAB.out {a b c d : Nat} {L L' : List Val} (h : SAB a b L) (hp : PAB c d L L') (hd : b ≤ c ∨ d ≤ a) : SAB a b L' := fun i j h1 h2 h3 => by
  rw [hp.out i (by omega), hp.out j (by omega)]
  exact h i j h1 h2 h3
/-- Halves that rise, the left one's values not above the right one's. -/
theorem SAB.join {a m b : Nat} {L : List Val} (h1 : SAB a m L) (h2 : SAB m b L) (hx : ∀ i j, a ≤ i → i < m → m ≤ j → j < b → ordV (atL L i) (atL L j) ≤ 0) : SAB a b L := fun i j h3 h4 h5 => by
  by_cases hj : j < m
  · exact h1 i j h3 h4 hj
  · by_cases hi : i < m
    · exact hx i j h3 hi (by omega) h5
    · exact h2 i j (by omega) h4 h5
theorem cross_keep {a m b : Nat} {L L' : List Val} (hx : ∀ i j, a ≤ i → i < m → m ≤ j → j < b → ordV (atL L i) (atL L j) ≤ 0) (h : PAB a m L L' ∨ PAB m b L L') : ∀ i j, a ≤ i → i < m → m ≤ j → j < b → ordV (atL L' i) (atL L' j) ≤ 0 := fun i j h1 h2 h3 h4 => by
  rcases h with h | h
  · obtain ⟨q, h5, h6, h7⟩ := h.ins i h1 h2
    rw [h7, h.out j (by omega)]
    exact hx q j h5 h6 h3 h4
  · obtain ⟨q, h5, h6, h7⟩ := h.ins j h3 h4
    rw [h7, h.out i (by omega)]
    exact hx i q h1 h2 h5 h6
/-- The values from a to m and those from m to b change their places. -/
def rotF (f : Nat → Val) (a m b : Nat) (k : Nat) : Val := if k < a ∨ b ≤ k then f k else if k < a + (b - m) then f (k - a + m) else f (k - (b - m))
/-- The ranges from a and from b, of n each, change their places. -/
def swapF (f : Nat → Val) (a b n : Nat) (k : Nat) : Val := if a ≤ k ∧ k < a + n then f (k - a + b) else if b ≤ k ∧ k < b + n then f (k - b + a) else f k
theorem swapF_next (L : List Val) (a b n : Nat) (f : Nat → Val) (hab : a + (n + 1) ≤ b) (hb : b + n < L.length) (h : ∀ k, atL L k = swapF f a b n k) : ∀ k, atL (swapL L (a + n) (b + n)) k = swapF f a b (n + 1) k := by
  intro k
  rw [swapL_at (by omega) hb]
  unfold swapF at *
  by_cases h1 : k = b + n
  · subst h1
    rw [if_pos rfl, h, if_neg (by omega), if_neg (by omega), if_neg (by omega), if_pos (by omega)]
    congr 1
    omega
  · rw [if_neg h1]
    by_cases h2 : k = a + n
    · subst h2
      rw [if_pos rfl, h, if_neg (by omega), if_neg (by omega), if_pos (by omega)]
      congr 1
      omega
    · rw [if_neg h2, h]
      by_cases h3 : a ≤ k ∧ k < a + n
      · rw [if_pos h3, if_pos (by omega)]
      · rw [if_neg h3, if_neg (by omega : ¬ (a ≤ k ∧ k < a + (n + 1)))]
        by_cases h4 : b ≤ k ∧ k < b + n
        · rw [if_pos h4, if_pos (by omega)]
        · rw [if_neg h4, if_neg (by omega)]
theorem rot_left {f : Nat → Val} {m i j : Nat} (hi : i ≤ m) (hij : j < i) (hj : 0 < j) : rotF (swapF f (m - i) m j) (m - i + j) m (m + j) = rotF f (m - i) m (m + j) := by
  funext k
  unfold rotF swapF
  by_cases h1 : k < m - i ∨ m + j ≤ k
  · rw [if_pos (by omega), if_neg (by omega), if_neg (by omega), if_pos h1]
  · rw [if_neg h1]
    by_cases h2 : k < m - i + j
    · rw [if_pos (by omega), if_pos (by omega), if_pos (by omega)]
    · rw [if_neg (by omega), if_neg (by omega : ¬ k < m - i + (m + j - m))]
      by_cases h3 : k < m - i + j + (m + j - m)
      · rw [if_pos h3, if_neg (by omega), if_pos (by omega)]
        congr 1
        omega
      · rw [if_neg h3, if_neg (by omega), if_neg (by omega)]
theorem rot_right {f : Nat → Val} {m i j : Nat} (hi : i ≤ m) (hij : i < j) (h0 : 0 < i) : rotF (swapF f (m - i) (m + j - i) i) (m - i) m (m + (j - i)) = rotF f (m - i) m (m + j) := by
  funext k
  unfold rotF swapF
  by_cases h1 : k < m - i ∨ m + j ≤ k
  · rw [if_pos (by omega), if_neg (by omega), if_neg (by omega), if_pos h1]
  · rw [if_neg h1]
    by_cases h4 : m + j - i ≤ k
    · rw [if_pos (by omega), if_neg (by omega), if_pos (by omega), if_neg (by omega)]
      congr 1
      omega
    · rw [if_neg (by omega)]
      by_cases h2 : k < m - i + (m + (j - i) - m)
      · rw [if_pos h2, if_pos (by omega : k < m - i + (m + j - m))]
        by_cases h5 : m - i ≤ k - (m - i) + m ∧ k - (m - i) + m < m - i + i
        · omega
        · rw [if_neg h5, if_neg (by omega)]
      · rw [if_neg h2]
        by_cases h6 : k < m - i + (m + j - m)
        · rw [if_pos h6, if_pos (by omega)]
          congr 1
          omega
        · omega
theorem rot_same {f : Nat → Val} {m i : Nat} (hi : i ≤ m) : swapF f (m - i) m i = rotF f (m - i) m (m + i) := by
  funext k
  unfold rotF swapF
  by_cases h1 : k < m - i ∨ m + i ≤ k
  · rw [if_neg (by omega), if_neg (by omega), if_pos h1]
  · rw [if_neg h1]
    by_cases h2 : k < m
    · rw [if_pos (by omega), if_pos (by omega)]
    · rw [if_neg (by omega), if_pos (by omega), if_neg (by omega)]
      congr 1
      omega
end Go.Proofs.YthbfomcmjjnikaaGreat
set_option linter.unusedSimpArgs false
set_option linter.unusedVariables false
namespace Go.Proofs.YthbfomcmjjnikaaGreat
open Go.RowKit Go.Sort

/-- What is sorted: the slice, the box of the variable that holds it, how two are swapped. -/
structure Sorting where
  base : Nat
  g : Nat
  N : Nat
  cap : Nat
  B : Nat
  SF : Nat
  sb : Array Value
def Sorting.v (T : Sorting) : Value := .slice (some ⟨T.g, 0, none⟩) T.N T.cap
def Sorting.less (T : Sorting) : Value := .func (.func 89) #[] #[.pointer (some ⟨T.B, 0, none⟩)]
def Sorting.swap (T : Sorting) : Value := .func (.func T.SF) #[] T.sb
structure Sorting.OK (T : Sorting) (w0 : World) : Prop where
  box : w0.cell? ⟨T.B, 0, none⟩ = some T.v
  ne : T.B ≠ T.g
  small : T.N ≤ 1048576
  swp : ∀ (W : World) (L : List Val) (i j : Nat), OwnV W T.base T.v L → i < T.N → j < T.N → ∃ W', (callFunc T.SF (#[.int .i64 i, .int .i64 j] ++ T.sb)).run Tryz.prog W = .ok (.value (.tuple #[])) W' ∧ OwnV W' T.base T.v (swapL L i j) ∧ Grew W W' T.v T.v
theorem Sorting.OK.later {T : Sorting} {w0 W : World} (h : T.OK w0) (hg : Grew w0 W T.v T.v) : T.OK W :=
  ⟨by rw [grew_kept hg (World.block_lt_of_cell? _ _ h.box) (by unfold Sorting.v; simp [Value.ownBlock]; exact fun e => h.ne e.symm)]; exact h.box, h.ne, h.small, h.swp⟩
theorem Sorting.keep {T : Sorting} {W W' : World} (hg : Grew W W' T.v T.v) {b j : Nat} {u : Value} (hb : b ≠ T.g) (h : W.cell? ⟨b, j, none⟩ = some u) : W'.cell? ⟨b, j, none⟩ = some u := by
  rw [grew_kept hg (World.block_lt_of_cell? _ _ h) (by unfold Sorting.v; simp [Value.ownBlock]; exact fun e => hb e.symm)]; exact h
theorem Sorting.lenL {T : Sorting} {W : World} {L : List Val} (h : OwnV W T.base T.v L) : L.length = T.N := (OwnV.len h).symm

set_option maxHeartbeats 2000000 in
set_option maxRecDepth 100000 in
theorem less_any (T : Sorting) (W : World) (L : List Val) (i j : Nat) (hT : T.OK W) (hO : OwnV W T.base T.v L) (hi : i < T.N) (hj : j < T.N) :
    Calls Tryz.prog 89 #[.int .i64 i, .int .i64 j, .pointer (some ⟨T.B, 0, none⟩)] W fun e w' => e = .returned (.bool (ltV (atL L i) (atL L j))) ∧ Below W.heap.size W w' := by
  have hl := Sorting.lenL hO
  have hbx := hT.box
  obtain ⟨c0, c1, c2, _⟩ := OwnV.facts hO (atL_some (L := L) (k := i) (by omega))
  obtain ⟨d0, d1, d2, _⟩ := OwnV.facts hO (atL_some (L := L) (k := j) (by omega))
  have HO := hide (fun W' => rorder_any (atL L i) (atL L j) W')
  rw [Val.open_, Val.open_] at HO
  unfold ltV
  generalize ordV (atL L i) (atL L j) = O at *
  generalize atL L i = x at *
  generalize atL L j = y at *
  unfold Sorting.v at hbx
  have i1 : (i : Int) < (T.N : Int) := by omega
  have i2 : (j : Int) < (T.N : Int) := by omega
  clear hT hO hl
  go_enter Tryz.func89, Tryz.ntmps89
  go_upto_region 1 with fail
  have k0 := cell_regrown c0
  have k1 := cell_regrown c1
  have k2 := cell_regrown c2
  have k3 := cell_regrown d0
  have k4 := cell_regrown d1
  have k5 := cell_regrown d2
  have k6 := cell_regrown hbx
  clear c0 c1 c2 d0 d1 d2 hbx
  refine wp_region_quiet_below (by kernel_rfl) (by kernel_rfl) ?_
  repeat (go_big_quiet_step (first
    | (go_at_call 84; exact Calls.regrown_of (unhide HO _))))
  refine wpQuiet_nil ?_
  intro w' hw'
  have hB : Below W.heap.size W w' := by obtain ⟨p, rfl⟩ := hw'; exact below_regrown _ _ _
  clear hw'
  go_wp2
  go_ret
  exact ⟨rfl, hB⟩

/-- The box of the two functions, in a world behind it. -/
structure Sorting.At (T : Sorting) (b : Nat) (W1 wr : World) (L : List Val) : Prop where
  own : OwnV wr T.base T.v L
  grew : Grew W1 wr T.v T.v
  ok : T.OK wr
  lt : b < W1.heap.size
  ne : b ≠ T.g
  c0 : wr.cell? ⟨b, 0, none⟩ = some T.less
  c1 : wr.cell? ⟨b, 1, none⟩ = some T.swap
theorem Sorting.At.grow {T : Sorting} {b : Nat} {W1 wr w' : World} {L L' : List Val} (h : T.At b W1 wr L) (ho : OwnV w' T.base T.v L') (hg : Grew wr w' T.v T.v) : T.At b W1 w' L' :=
  ⟨ho, h.grew.trans hg, h.ok.later hg, h.lt, h.ne, Sorting.keep hg h.ne h.c0, Sorting.keep hg h.ne h.c1⟩
theorem Sorting.At.below {T : Sorting} {b : Nat} {W1 wr w' : World} {L : List Val} (h : T.At b W1 wr L) (hb : Below wr.heap.size wr w') : T.At b W1 w' L := h.grow (h.own.later hb) (Grew.of_below hb _)
theorem Sorting.At.swp {T : Sorting} {b : Nat} {W1 wr : World} {L : List Val} (h : T.At b W1 wr L) {i j : Nat} (hi : i < T.N) (hj : j < T.N) : ∃ W', (callFunc T.SF (#[.int .i64 i, .int .i64 j] ++ T.sb)).run Tryz.prog wr = .ok (.value (.tuple #[])) W' ∧ T.At b W1 W' (swapL L i j) := by
  obtain ⟨W', h1, h2, h3⟩ := h.ok.swp wr L i j h.own hi hj
  exact ⟨W', h1, h.grow h2 h3⟩
theorem Sorting.start {T : Sorting} {W : World} {L : List Val} (hT : T.OK W) (hO : OwnV W T.base T.v L) : T.At W.heap.size (W.alloc (.cells #[T.less, T.swap] 162)) (W.alloc (.cells #[T.less, T.swap] 162)) L := by
  have hg := Grew.alloc W T.v (.cells #[T.less, T.swap] 162)
  have hgl := (World.ownsRow.lt hO T.g rfl).2
  exact ⟨hO.later (below_alloc (Below.refl _ _) _), Grew.refl _ _, hT.later hg, by simp, by omega, by simp [go_sem], by simp [go_sem]⟩
theorem Sorting.At.back {T : Sorting} {W wr : World} {L : List Val} (h : T.At W.heap.size (W.alloc (.cells #[T.less, T.swap] 162)) wr L) : Grew W wr T.v T.v := (Grew.alloc W T.v _).trans h.grew
theorem swapF_zero (f : Nat → Val) (a b : Nat) : swapF f a b 0 = f := by
  funext k
  unfold swapF
  rw [if_neg (by omega), if_neg (by omega)]

set_option maxHeartbeats 4000000 in
set_option maxRecDepth 100000 in
theorem swaprange_any (T : Sorting) (W : World) (L : List Val) (a b n : Nat) (hT : T.OK W) (hO : OwnV W T.base T.v L) (hab : a + n ≤ b) (hb : b + n ≤ T.N) :
    Calls Tryz.prog 167 #[.agg #[T.less, T.swap], .int .i64 a, .int .i64 b, .int .i64 n] W fun e w' => e = .returned (.tuple #[]) ∧ ∃ L', OwnV w' T.base T.v L' ∧ Grew W w' T.v T.v ∧ PAB a (b + n) L L' ∧ ∀ k, atL L' k = swapF (atL L) a b n k := by
  have H0 := hide (Sorting.start hT hO)
  have hsm := hT.small
  clear hT hO
  go_enter Tryz.func167, Tryz.ntmps167
  go_wp2_with fail
  go_loopw [8] (fun s wr => ∃ (k : Nat) (L' : List Val), s = .int .i64 (k : Int) ∧ k ≤ n ∧ Hid (T.At W.heap.size (W.alloc (.cells #[T.less, T.swap] 162)) wr L') ∧ Hid (PAB a (b + n) L L') ∧ Hid (∀ q, atL L' q = swapF (atL L) a b k q)) (fun s _ => n - (intOf s).toNat)
  case atStart => exact ⟨0, L, rfl, Nat.zero_le _, H0, PAB.refl _ _ _, fun q => by rw [swapF_zero]⟩
  case round =>
    obtain ⟨k, L', rfl, hk, HA, HP, HF⟩ := hrel
    have hlen := Sorting.lenL (unhide HA).own
    by_cases h1 : k < n
    · have i1 : (k : Int) < (n : Int) := by omega
      obtain ⟨W', hsw, hA'⟩ := (unhide HA).swp (i := a + k) (j := b + k) (by omega) (by omega)
      rw [Int.natCast_add, Int.natCast_add] at hsw
      have c1 := (unhide HA).c1
      have HA' := hide hA'
      have HP' := hide ((unhide HP).trans (PAB.swap (i := a + k) (j := b + k) (by omega) (by omega) (by omega) (by omega) (by omega) (by omega)))
      have HF' := hide (swapF_next L' a b k (atL L) (by omega) (by omega) (unhide HF))
      unfold Sorting.swap at c1
      have HSW := hide hsw
      clear hA' hsw hlen
      go_wp2
      rw [unhide HSW, Oper.upon_value]
      go_wp2
      go_roundw
      case rel => exact ⟨k + 1, _, by go_num, by omega, HA', HP', HF'⟩
      case measure => first | (simp [intOf]; omega) | (simp only [intOf]; omega)
    · have i1 : ¬ (k : Int) < (n : Int) := by omega
      have hkn : k = n := by omega
      rw [hkn] at HF
      clear hkn hlen
      go_wp2
      go_end0
      exact ⟨rfl, L', (unhide HA).own, (unhide HA).back, unhide HP, unhide HF⟩
end Go.Proofs.YthbfomcmjjnikaaGreat
set_option linter.unusedSimpArgs false
set_option linter.unusedVariables false
namespace Go.Proofs.YthbfomcmjjnikaaGreat
open Go.RowKit Go.Sort

set_option maxHeartbeats 4000000 in
set_option maxRecDepth 100000 in
theorem rotate_any (T : Sorting) (W : World) (L : List Val) (a m b : Nat) (hT : T.OK W) (hO : OwnV W T.base T.v L) (ham : a < m) (hmb : m < b) (hb : b ≤ T.N) :
    Calls Tryz.prog 156 #[.agg #[T.less, T.swap], .int .i64 a, .int .i64 m, .int .i64 b] W fun e w' => e = .returned (.tuple #[]) ∧ ∃ L', OwnV w' T.base T.v L' ∧ Grew W w' T.v T.v ∧ PAB a b L L' ∧ ∀ k, atL L' k = rotF (atL L) a m b k := by
  have H0 := hide (Sorting.start hT hO)
  have hsm := hT.small
  clear hT hO
  have e1 : (m : Int) - (a : Int) = ((m - a : Nat) : Int) := by omega
  have e2 : (b : Int) - (m : Int) = ((b - m : Nat) : Int) := by omega
  go_enter Tryz.func156, Tryz.ntmps156
  go_wp2_with fail
  go_loopw [8, 9] (fun s8 s9 wr => ∃ (i j : Nat) (L' : List Val), s8 = .int .i64 (i : Int) ∧ s9 = .int .i64 (j : Int) ∧ 0 < i ∧ 0 < j ∧ a + i ≤ m ∧ m + j ≤ b ∧ Hid (T.At W.heap.size (W.alloc (.cells #[T.less, T.swap] 162)) wr L') ∧ Hid (PAB a b L L') ∧ Hid (rotF (atL L') (m - i) m (m + j) = rotF (atL L) a m b)) (fun s8 s9 _ => (intOf s8).toNat + (intOf s9).toNat)
  case atStart => exact ⟨m - a, b - m, L, by first | rfl | (rw [← e1]) | simp, by first | rfl | (rw [← e2]) | simp, by omega, by omega, by omega, by omega, H0, PAB.refl _ _ _, by rw [show m - (m - a) = a by omega, show m + (b - m) = b by omega]; exact rfl⟩
  case round =>
    obtain ⟨i, j, L', rfl, rfl, hi, hj, him, hjb, HA, HP, HF⟩ := hrel
    have c0 := (unhide HA).c0
    have c1 := (unhide HA).c1
    have f1 : (m : Int) - (i : Int) = ((m - i : Nat) : Int) := by omega
    have HAG : Hid (∀ w' L2, OwnV w' T.base T.v L2 → Grew wr w' T.v T.v → T.At W.heap.size (W.alloc (.cells #[T.less, T.swap] 162)) w' L2) := fun w' L2 h1 h2 => (unhide HA).grow h1 h2
    by_cases h1 : i = j
    · subst h1
      have i1 : ((i : Int) != (i : Int)) = false := by simp
      have HS := hide (swaprange_any T wr L' (m - i) m i (unhide HA).ok (unhide HA).own (by omega) (by omega))
      have HB := hide (unhide HA).back
      clear HAG
      go_wp2_with (go_at_call 167; refine (unhide HS).mono ?_; rintro e w2 ⟨rfl, L2, q1, q2, q3, q4⟩)
      go_end0
      refine ⟨rfl, L2, q1, (unhide HB).trans q2, (unhide HP).trans (q3.widen (by omega) (by omega)), fun k => ?_⟩
      rw [q4 k, rot_same (by omega), unhide HF]
    · have i1 : ((i : Int) != (j : Int)) = true := by simp; omega
      by_cases h2 : j < i
      · have i2 : (j : Int) < (i : Int) := by omega
        have HS := hide (swaprange_any T wr L' (m - i) m j (unhide HA).ok (unhide HA).own (by omega) (by omega))
        have hR := rot_left (f := atL L') (m := m) (i := i) (j := j) (by omega) h2 hj
        rw [unhide HF] at hR
        have HR := hide hR
        clear hR
        go_wp2_with (go_at_call 167; refine (unhide HS).mono ?_; rintro e w2 ⟨rfl, L2, q1, q2, q3, q4⟩; replace q1 := hide q1; replace q2 := hide q2; replace q3 := hide q3; replace q4 := hide q4)
        go_roundw
        case rel =>
          refine ⟨i - j, j, L2, by go_num, rfl, by omega, hj, by omega, hjb, unhide HAG _ _ (unhide q1) (unhide q2), (unhide HP).trans ((unhide q3).widen (by omega) (by omega)), ?_⟩
          show _ = _
          have : atL L2 = swapF (atL L') (m - i) m j := funext (unhide q4)
          rw [this, ← unhide HR, show m - (i - j) = m - i + j by omega]
        case measure => first | (simp [intOf]; omega) | (simp only [intOf]; omega)
      · have i2 : ¬ (j : Int) < (i : Int) := by omega
        have f2 : (m : Int) + (j : Int) - (i : Int) = ((m + j - i : Nat) : Int) := by omega
        have HS := hide (swaprange_any T wr L' (m - i) (m + j - i) i (unhide HA).ok (unhide HA).own (by omega) (by omega))
        have hR := rot_right (f := atL L') (m := m) (i := i) (j := j) (by omega) (by omega) hi
        rw [unhide HF] at hR
        have HR := hide hR
        clear hR
        go_wp2_with (go_at_call 167; refine (unhide HS).mono ?_; rintro e w2 ⟨rfl, L2, q1, q2, q3, q4⟩; replace q1 := hide q1; replace q2 := hide q2; replace q3 := hide q3; replace q4 := hide q4)
        go_roundw
        case rel =>
          refine ⟨i, j - i, L2, rfl, by go_num, hi, by omega, him, by omega, unhide HAG _ _ (unhide q1) (unhide q2), (unhide HP).trans ((unhide q3).widen (by omega) (by omega)), ?_⟩
          show _ = _
          have : atL L2 = swapF (atL L') (m - i) (m + j - i) i := funext (unhide q4)
          rw [this, ← unhide HR]
        case measure => first | (simp [intOf]; omega) | (simp only [intOf]; omega)
end Go.Proofs.YthbfomcmjjnikaaGreat
