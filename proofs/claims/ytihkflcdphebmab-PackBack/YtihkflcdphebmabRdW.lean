import Derived.Test.YtihkflcdphebmabRdV
set_option linter.unusedSimpArgs false
set_option linter.unusedVariables false
namespace Go.Proofs.Ytihkflcdphebmab
open Go.RowKit Go.Sort

theorem clean_clean (x : Val) : cleanV (cleanV x) = cleanV x := by
  unfold cleanV
  rcases Bool.eq_false_or_eq_true (x.k == 1) with h1 | h1 <;> rcases Bool.eq_false_or_eq_true (x.k == 2) with h2 | h2 <;> simp [h1, h2, Val.num, Val.str, Val.null]
theorem clean_cases (x : Val) : cleanV x = .null ∨ cleanV x = .num x.n ∨ cleanV x = .str x.s := by
  unfold cleanV
  split
  · exact .inr (.inl rfl)
  · split
    · exact .inr (.inr rfl)
    · exact .inl rfl
theorem clean_shape {y : Val} (h : cleanV y = y) : y = .null ∨ (∃ n, y = .num n) ∨ ∃ s, y = .str s := by
  rcases clean_cases y with e | e | e
  · exact .inl (h.symm.trans e)
  · exact .inr (.inl ⟨_, h.symm.trans e⟩)
  · exact .inr (.inr ⟨_, h.symm.trans e⟩)
theorem large_le {s : ByteArray} : largeB s = false ↔ s.size ≤ 1000 := by
  unfold largeB
  rw [decide_eq_false_iff_not]
  omega
theorem zip_map2 {α β γ : Type} (f : α → β) (g : α → γ) (l : List α) : (l.map f).zip (l.map g) = l.map fun x => (f x, g x) := by
  induction l with
  | nil => rfl
  | cons a l ih => simp [ih]
theorem laid_good {kind : Int} {ys : List Val} (hk : kind = 1 ∨ kind = 2) (hc : ∀ y ∈ ys, cleanV y = y) (hb : ∀ y ∈ ys, badK kind y = false) (hl : ∀ y ∈ ys, largeB y.s = false) : goodB (laidV kind ys) = true := by
  rcases hk with rfl | rfl
  · unfold goodB laidV
    simp only [beq_self_eq_true, if_true, znN, nlOf, zip_map2, List.length_map, Bool.and_eq_true, Bool.not_eq_true', List.length_nil]
    refine ⟨trivial, trivial, ?_⟩
    rw [List.any_eq_false]
    intro p hp
    obtain ⟨y, hy, rfl⟩ := List.mem_map.1 hp
    rcases clean_shape (hc y hy) with rfl | ⟨n, rfl⟩ | ⟨s, rfl⟩ <;> simp [badN, Val.null, Val.num, Val.str]
  · have e1 : ((2 : Int) == 1) = false := rfl
    have e2 : ¬ (2 : Int) = 1 := by decide
    unfold goodB laidV
    simp only [e1, Bool.false_eq_true, beq_self_eq_true, if_true, if_false, e2, znS, nlOf, zip_map2, List.length_map, Bool.and_eq_true, Bool.not_eq_true', List.length_nil]
    refine ⟨⟨trivial, trivial, ?_⟩, ?_⟩
    · rw [List.any_eq_false]
      intro p hp
      obtain ⟨y, hy, rfl⟩ := List.mem_map.1 hp
      rcases clean_shape (hc y hy) with rfl | ⟨n, rfl⟩ | ⟨s, rfl⟩
      · simp [badS, Val.null]
      · simp [badS, Val.num]
      · simp [badS, Val.str]
    · rw [List.any_eq_false]
      intro s hs
      obtain ⟨y, hy, rfl⟩ := List.mem_map.1 hs
      simp [hl y hy]
theorem laid_vals {kind : Int} {ys : List Val} (hk : kind = 1 ∨ kind = 2) (hc : ∀ y ∈ ys, cleanV y = y) (hb : ∀ y ∈ ys, badK kind y = false) (hl : ∀ y ∈ ys, largeB y.s = false) : valsV (laidV kind ys) = ys := by
  have hg := laid_good hk hc hb hl
  apply List.ext_getElem?
  intro i
  by_cases hi : i < ys.length
  · rw [vals_at hg (by simpa [laidV, nlOf] using hi), List.getElem?_eq_getElem hi]
    congr 1
    have hm := List.getElem_mem hi
    have hcl := hc _ hm
    have hbd := hb _ hm
    generalize hy : ys[i] = y at *
    have hgt : ys[i]? = some y := by rw [List.getElem?_eq_getElem hi, hy]
    unfold atV
    rcases hk with rfl | rfl
    · rcases clean_shape hcl with rfl | ⟨n, rfl⟩ | ⟨s, rfl⟩
      · simp [laidV, nlOf, hgt, List.getD_eq_getElem?_getD, Val.null]
      · simp [laidV, nlOf, hgt, List.getD_eq_getElem?_getD, Val.num]
      · simp [badK, Val.str] at hbd
    · rcases clean_shape hcl with rfl | ⟨n, rfl⟩ | ⟨s, rfl⟩
      · simp [laidV, nlOf, hgt, List.getD_eq_getElem?_getD, Val.null]
      · simp [badK, Val.num] at hbd
      · simp [laidV, nlOf, hgt, List.getD_eq_getElem?_getD, Val.str]
  · rw [List.getElem?_eq_none (by rw [vals_len hg]; simp [laidV, nlOf]; omega), List.getElem?_eq_none (by omega)]
/-- What From makes of values that fit. -/
theorem from_ok {kind : Int} {xs : List Val} {X : Vc} (h : fromV kind xs = (X, 0)) : goodB X = true ∧ X.k = kind ∧ valsV X = xs.map cleanV ∧ fromV X.k (valsV X) = (X, 0) ∧ X.nl.length = xs.length ∧ X.ns.length ≤ xs.length ∧ X.ss.length ≤ xs.length ∧ ((∀ x ∈ xs, -9223372036854775808 ≤ x.n ∧ x.n ≤ 9223372036854775807) → ∀ n ∈ X.ns, -9223372036854775808 ≤ n ∧ n ≤ 9223372036854775807) := by
  unfold fromV at h
  split at h
  · injection h with _ h; cases h
  rename_i hk
  split at h
  · injection h with _ h; cases h
  rename_i hb
  split at h
  · injection h with _ h; cases h
  rename_i hl
  injection h with h _
  subst h
  have hk2 : kind = 1 ∨ kind = 2 := by
    cases hkk : kindB kind
    · exact absurd hkk hk
    · unfold kindB at hkk; simpa using hkk
  have hc : ∀ y ∈ xs.map cleanV, cleanV y = y := fun y hy => by
    obtain ⟨x, _, rfl⟩ := List.mem_map.1 hy
    exact clean_clean x
  have hb2 : ∀ y ∈ xs.map cleanV, badK kind y = false := fun y hy => by
    cases hbb : badK kind y
    · rfl
    · exact absurd (List.any_eq_true.2 ⟨y, hy, hbb⟩) hb
  have hl2 : ∀ y ∈ xs.map cleanV, largeB y.s = false := fun y hy => by
    cases hbb : largeB y.s
    · rfl
    · exact absurd (List.any_eq_true.2 ⟨y, hy, hbb⟩) hl
  have hv := laid_vals hk2 hc hb2 hl2
  have ec : (xs.map cleanV).map cleanV = xs.map cleanV := by
    conv => rhs; rw [← List.map_id (xs.map cleanV)]
    exact List.map_congr_left fun y hy => hc y hy
  refine ⟨laid_good hk2 hc hb2 hl2, rfl, hv, ?_, by simp [laidV, nlOf], ?_, ?_, ?_⟩
  · rw [hv]
    show fromV kind (xs.map cleanV) = _
    unfold fromV
    rw [if_neg hk, ec, if_neg hb, if_neg hl]
  · simp only [laidV]; split <;> simp
  · simp only [laidV]; split <;> simp
  · intro hr n hn
    simp only [laidV] at hn
    split at hn
    · obtain ⟨y, hy, rfl⟩ := List.mem_map.1 hn
      obtain ⟨x, hx, rfl⟩ := List.mem_map.1 hy
      rcases clean_cases x with e | e | e
      · rw [e]; decide
      · rw [e]; exact hr x hx
      · rw [e]; show -9223372036854775808 ≤ (0 : Int) ∧ (0 : Int) ≤ 9223372036854775807; decide
    · cases hn
theorem from_bad {kind : Int} {xs : List Val} (h : (fromV kind xs).2 ≠ 0) : (fromV kind xs).1 = .zero := by
  unfold fromV at h ⊢
  split
  · rfl
  · split
    · rfl
    · split
      · rfl
      · rename_i h1 h2 h3
        rw [if_neg h1, if_neg h2, if_neg h3] at h
        exact absurd rfl h
theorem words_one {ys W W' : List Val} (hc : ∀ y ∈ ys, cleanV y = y) (h : WordsOf ys W) (h' : WordsOf ys W') : W = W' := by
  obtain ⟨S, hp, hr, rfl⟩ := h
  obtain ⟨S', hp', hr', rfl⟩ := h'
  rw [rises_eq hr hr' (hp.trans hp'.symm) (fun x hx => hc x (hp.mem_iff.1 hx))]
theorem body_one {n : Nat} {ys : List Val} {b b' : List Int} (hc : ∀ y ∈ ys, cleanV y = y) (h : BodyB n ys b) (h' : BodyB n ys b') : b = b' := by
  rcases h with ⟨rfl, rfl⟩ | ⟨rfl, rfl⟩ | ⟨rfl, W, hW, rfl⟩ | ⟨rfl, rfl⟩
  · rcases h' with ⟨_, rfl⟩ | ⟨e, _⟩ | ⟨e, _⟩ | ⟨e, _⟩
    · rfl
    all_goals cases e
  · rcases h' with ⟨e, _⟩ | ⟨_, rfl⟩ | ⟨e, _⟩ | ⟨e, _⟩
    · cases e
    · rfl
    all_goals cases e
  · rcases h' with ⟨e, _⟩ | ⟨e, _⟩ | ⟨_, W', hW', rfl⟩ | ⟨e, _⟩
    · cases e
    · cases e
    · rw [words_one hc hW hW']
    · cases e
  · rcases h' with ⟨e, _⟩ | ⟨e, _⟩ | ⟨e, _⟩ | ⟨_, rfl⟩
    · cases e
    · cases e
    · cases e
    · rfl
/-- Write answers one thing. -/
theorem pw_one {X : Vc} (hg : goodB X = true) {n : Int} {s s' : ByteArray} {f f' : Int} (h : PW X n s f) (h' : PW X n s' f') : s = s' ∧ f = f' := by
  rcases h with ⟨h1, rfl, rfl⟩ | ⟨h1, h2, rfl, rfl⟩ | ⟨h1, h2, rfl, b, hb, rfl⟩
  · rcases h' with ⟨_, rfl, rfl⟩ | ⟨g1, _⟩ | ⟨g1, _⟩
    · exact ⟨rfl, rfl⟩
    · rw [h1] at g1; cases g1
    · rw [h1] at g1; cases g1
  · rcases h' with ⟨g1, _⟩ | ⟨_, _, rfl, rfl⟩ | ⟨_, g2, _⟩
    · rw [h1] at g1; cases g1
    · exact ⟨rfl, rfl⟩
    · omega
  · rcases h' with ⟨g1, _⟩ | ⟨_, g2, _⟩ | ⟨_, _, rfl, b', hb', rfl⟩
    · rw [h1] at g1; cases g1
    · omega
    · rw [body_one (fun y hy => vals_clean hg (List.mem_filter.1 hy).1) hb hb']
      exact ⟨rfl, rfl⟩
/-- The shortest is one of them, and as short as any. -/
theorem pb_one {X : Vc} (hg : goodB X = true) : ∀ (j : Nat) (b : ByteArray), PB X j b → (∃ n : Nat, 1 ≤ n ∧ n ≤ j + 1 ∧ PW X (n : Int) b 0) ∧ ∀ (n : Nat) (s : ByteArray), 1 ≤ n → n ≤ j + 1 → PW X (n : Int) s 0 → b.size ≤ s.size
  | 0, b, h => by
    refine ⟨⟨1, by omega, by omega, h⟩, fun n s h1 h2 hs => ?_⟩
    have : n = 1 := by omega
    subst this
    rw [(pw_one hg h hs).1]; exact Nat.le_refl _
  | j + 1, b, ⟨c, s, f, hc, hs, hb⟩ => by
    obtain ⟨⟨n, n1, n2, hn⟩, hmin⟩ := pb_one hg j c hc
    have e : (j : Int) + 2 = ((j + 2 : Nat) : Int) := by omega
    rw [e] at hs
    subst hb
    unfold pickB
    by_cases hp : f = 0 ∧ s.size < c.size
    · rw [if_pos hp]
      obtain ⟨rfl, hlt⟩ := hp
      refine ⟨⟨j + 2, by omega, by omega, hs⟩, fun m t m1 m2 ht => ?_⟩
      by_cases hm : m = j + 2
      · subst hm; rw [(pw_one hg hs ht).1]; exact Nat.le_refl _
      · have := hmin m t m1 (by omega) ht; omega
    · rw [if_neg hp]
      refine ⟨⟨n, n1, by omega, hn⟩, fun m t m1 m2 ht => ?_⟩
      by_cases hm : m = j + 2
      · subst hm
        obtain ⟨e1, e2⟩ := pw_one hg hs ht
        subst e1; subst e2
        have : ¬ s.size < c.size := fun h => hp ⟨rfl, h⟩
        omega
      · exact hmin m t m1 (by omega) ht
theorem runsB_len : ∀ (f : Nat) (xs : List Val), (∀ x ∈ xs, x.s.size ≤ 1000) → (runsB f xs).length ≤ 1012 * f
  | 0, _, _ => by simp [runsB]
  | f + 1, [], _ => by simp [runsB]
  | f + 1, x :: xs, h => by
    have h1 := plainL_len x
    have h2 := h x (by simp)
    have h3 := runsB_len f ((x :: xs).drop (aheadN (x :: xs))) (fun y hy => h y (List.mem_of_mem_drop hy))
    rw [runsB, List.length_append, List.length_append, beL_len]
    omega
theorem bytesN_le {k d : Nat} (hk : k ≤ 4096) (hd : d ≤ 64) : bytesN k d ≤ 32769 := by
  have : k * d ≤ 4096 * 64 := Nat.mul_le_mul hk hd
  unfold bytesN; omega
theorem body_len {n : Nat} {ys : List Val} {b : List Int} (h : BodyB n ys b) (hl : ys.length ≤ 4096) (hs : ∀ x ∈ ys, x.s.size ≤ 1000) : b.length ≤ 5000000 := by
  rcases h with ⟨_, rfl⟩ | ⟨_, rfl⟩ | ⟨_, W, hW, rfl⟩ | ⟨_, rfl⟩
  · have := plains_len4 ys hs hl; omega
  · have := runsB_len ys.length ys hs
    rw [List.length_append, beL_len]; omega
  · have h1 := plains_len4 W (fun x hx => hs x (hW.sub hx)) (by have := hW.len; omega)
    have hlen := hW.len
    have hd : bl (W.length - 1) ≤ 64 := bl_le (by have : (2:Nat)^64 = 18446744073709551616 := by decide
                                                  omega)
    have := bytesN_le hl hd
    unfold wordsB
    rw [List.length_append, List.length_append, beL_len, leB_len]; omega
  · have := bytesN_le hl (widL_le (leastI ys) ys)
    unfold offsB
    rw [List.length_append, List.length_append, beL_len, beL_len, leB_len]; omega
theorem pw_size {X : Vc} {n : Int} {s : ByteArray} (h : PW X n s 0) : s.size ≤ 6000000 := by
  rcases h with ⟨_, _, h⟩ | ⟨_, _, _, h⟩ | ⟨hb, hl, _, b, hbody, rfl⟩
  · cases h
  · cases h
  have hg : goodB X = true := by
    unfold badW at hb
    cases hgg : goodB X
    · rw [hgg] at hb; simp at hb
    · rfl
  have hvl : (valsV X).length ≤ 4096 := Nat.le_trans (vals_le X) hl
  have h1 := body_len hbody (Nat.le_trans (List.length_filter_le _ _) hvl) (fun x hx => vals_size hg (List.mem_filter.1 hx).1)
  have h2 := nulls_len (valsV X) hvl
  rw [toB_size, List.length_append]
  unfold headB
  rw [List.length_append, List.length_append, List.length_append, beL_len, beL_len, beL_len]
  omega
theorem pw_opens {X : Vc} (hr : ∀ n ∈ X.ns, -9223372036854775808 ≤ n ∧ n ≤ 9223372036854775807) {n : Nat} (h1 : 1 ≤ n) (h4 : n ≤ 4) {s : ByteArray} (h : PW X (n : Int) s 0) : Opens s n X.k (valsV X) :=
  opens_of (by have := pw_size h; omega) (packed_col hr (by omega) h)
end Go.Proofs.Ytihkflcdphebmab
