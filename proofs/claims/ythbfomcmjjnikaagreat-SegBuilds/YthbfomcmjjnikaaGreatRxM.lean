import Derived.Test.YthbfomcmjjnikaaGreatRdQ
import Derived.Test.YthbfomcmjjnikaaGreatRdK
set_option linter.unusedSimpArgs false
set_option linter.unusedVariables false
namespace Go.Proofs.YthbfomcmjjnikaaGreat
open Go.RowKit Go.Sort

theorem en_id (l : List UInt8) : en (l.map fun b => (b.toNat : Int)) = l := by
  unfold en
  rw [List.map_map]
  conv => rhs; rw [← List.map_id l]
  apply List.map_congr_left
  intro b _
  simp [ofI]
theorem numD_forth {n m : Nat} {l r : List UInt8} (h : numD n l = some (m, r)) : l = en (beL (m : Int) n n) ++ r ∧ m < 256 ^ n := by
  obtain ⟨h1, rfl, rfl⟩ := numD_some h
  have hl : (l.take n).length = n := by rw [List.length_take]; omega
  have e := beL_forth (l.take n)
  have hb := beV_lt (l.take n)
  rw [hl] at e hb
  exact ⟨by rw [e, en_id, List.take_append_drop], hb⟩
theorem sint_wrap {m : Nat} (h : m < 18446744073709551616) : IntKind.u64.wrap (sint m) = (m : Int) := by
  rw [IntKind.wrap_u64]; unfold sint wrap64; omega
theorem fits_num (m : Nat) : Fits 1 (.num (sint m)) := .inl ⟨rfl, _, wrap64_lo _, wrap64_hi _, rfl⟩
theorem plainD_forth {kind : Int} {l r : List UInt8} {x : Val} (hk : kind = 1 ∨ kind = 2) (h : plainD kind l = some (x, r)) : l = en (plainL x) ++ r ∧ Fits kind x := by
  rcases hk with rfl | rfl
  · unfold plainD at h
    rw [if_pos (by decide)] at h
    cases hn : numD 8 l with
    | none => rw [hn] at h; cases h
    | some p =>
      obtain ⟨m, r'⟩ := p
      rw [hn] at h
      injection h with h
      injection h with h1 h2
      subst h1; subst h2
      obtain ⟨e, hm⟩ := numD_forth hn
      have hm2 : m < 18446744073709551616 := by
        have : (256 : Nat) ^ 8 = 18446744073709551616 := by decide
        omega
      have e1 : plainL (.num (sint m)) = beL (m : Int) 8 8 := by
        simp [plainL, Val.num, sint_wrap hm2]
      rw [e1]
      exact ⟨e, fits_num m⟩
  · unfold plainD at h
    rw [if_neg (by decide)] at h
    cases hn : numD 2 l with
    | none => rw [hn] at h; cases h
    | some p =>
      obtain ⟨m, l1⟩ := p
      rw [hn, Option.bind_some] at h
      by_cases hm : m ≤ 1000
      · simp only [hm, if_true] at h
        cases ht : takeD m l1 with
        | none => rw [ht] at h; cases h
        | some q =>
          obtain ⟨t, r'⟩ := q
          rw [ht] at h
          injection h with h
          injection h with h1 h2
          subst h1; subst h2
          obtain ⟨e, _⟩ := numD_forth hn
          obtain ⟨g1, g2, g3⟩ := takeD_some ht
          have htl : t.length = m := by rw [g2, List.length_take]; omega
          have hsz : (bs t).size = m := by rw [bs_size, htl]
          have e1 : plainL (.str (bs t)) = beL (m : Int) 2 2 ++ txt (bs t) := by simp [plainL, Val.str, hsz]
          rw [e1, en_append, en_txt, List.append_assoc]
          refine ⟨?_, .inr ⟨rfl, _, by rw [hsz]; exact hm, rfl⟩⟩
          rw [e]
          congr 1
          show l1 = t ++ r'
          rw [g2, g3, List.take_append_drop]
      · simp only [hm, if_false] at h; cases h
theorem plains_snoc (xs : List Val) (x : Val) : plains (xs ++ [x]) = plains xs ++ plainL x := by simp [plains]
theorem plainsD_forth {kind : Int} (hk : kind = 1 ∨ kind = 2) : ∀ (n : Nat) {l r : List UInt8} {vs : List Val}, plainsD kind n l = some (vs, r) → l = en (plains vs) ++ r ∧ ∀ x ∈ vs, Fits kind x
  | 0, l, r, vs, h => by
    unfold plainsD at h
    injection h with h; injection h with h1 h2
    subst h1; subst h2
    exact ⟨by simp [plains, en], by simp⟩
  | n + 1, l, r, vs, h => by
    unfold plainsD at h
    cases hp : plainsD kind n l with
    | none => rw [hp] at h; cases h
    | some p =>
      obtain ⟨us, l1⟩ := p
      rw [hp, Option.bind_some] at h
      cases hq : plainD kind l1 with
      | none => rw [hq] at h; cases h
      | some q =>
        obtain ⟨x, r'⟩ := q
        rw [hq] at h
        injection h with h
        injection h with h1 h2
        subst h1; subst h2
        obtain ⟨e1, f1⟩ := plainsD_forth hk n hp
        obtain ⟨e2, f2⟩ := plainD_forth hk hq
        refine ⟨by rw [plains_snoc, en_append, List.append_assoc, ← e2]; exact e1, fun y hy => ?_⟩
        rcases List.mem_append.1 hy with hy | hy
        · exact f1 y hy
        · rw [List.mem_singleton] at hy; rw [hy]; exact f2
theorem bitsD_forth {count d : Nat} {l t r : List UInt8} (h : bitsD count d l = some (t, r)) : l = en (leB (total d (numsOf t d count)) (bytesN count d)) ++ r := by
  obtain ⟨h1, h2, _, e⟩ := bitsD_some h
  have e1 : total d (numsOf t d count) = leV t := by
    unfold numsOf
    rw [total_nums, Nat.mod_eq_of_lt h2]
  rw [e1, ← h1, leB_forth, en_id]
  exact e
theorem nullsD_forth {n : Nat} {l r : List UInt8} {nl : List Bool} {xs : List Val} (h : nullsD n l = some (nl, r)) (hx : xs.map nullB = nl) : l = en (nullsL xs) ++ r := by
  have hlen : xs.length = n := by rw [← (nullsD_len h).1, ← hx, List.length_map]
  unfold nullsD at h
  cases hn : numD 1 l with
  | none => rw [hn] at h; cases h
  | some p =>
    obtain ⟨m, l1⟩ := p
    rw [hn, Option.bind_some] at h
    obtain ⟨e, _⟩ := numD_forth hn
    by_cases h0 : m = 0
    · simp only [h0, if_true] at h
      injection h with h; injection h with h1 h2
      subst h2; subst h0
      have ha : xs.any nullB = false := by
        rw [List.any_eq_false]
        intro x hxm hxn
        have : nullB x ∈ nl := by rw [← hx]; exact List.mem_map_of_mem hxm
        rw [← h1, hxn] at this
        have := List.eq_of_mem_replicate this
        cases this
      unfold nullsL
      rw [ha]
      exact e
    · by_cases h1 : m = 1
      · simp only [h0, h1, if_true, if_false] at h
        cases hb : bitsD n 1 l1 with
        | none => rw [hb] at h; cases h
        | some q =>
          obtain ⟨t, r'⟩ := q
          rw [hb, Option.bind_some] at h
          obtain ⟨hany, h2⟩ := ite_some h
          injection h2 with h2 h3
          subst h3
          have ha : xs.any nullB = true := by
            have : (xs.map nullB).any id = true := by rw [hx, ← h2]; exact hany
            rw [List.any_map] at this
            exact this
          have hm : marksN xs = numsOf t 1 n := by
            have e1 : marksN xs = (xs.map nullB).map fun b => if b then 1 else 0 := by simp [marksN]
            rw [e1, hx, ← h2]
            unfold nlOfT
            rw [List.map_map]
            conv => rhs; rw [← List.map_id (numsOf t 1 n)]
            apply List.map_congr_left
            intro k hk
            unfold numsOf at hk
            obtain ⟨i, _, rfl⟩ := List.mem_map.1 hk
            have : numAt (leV t) 1 i < 2 := by unfold numAt; exact Nat.mod_lt _ (by decide)
            simp only [Function.comp, id]
            generalize numAt (leV t) 1 i = z at this
            have hz : z = 0 ∨ z = 1 := by omega
            rcases hz with rfl | rfl <;> rfl
          unfold nullsL
          rw [ha, if_pos rfl, hm, hlen, en_append, List.append_assoc, ← bitsD_forth hb]
          subst h1
          exact e
      · simp only [h0, h1, if_false] at h; cases h
end Go.Proofs.YthbfomcmjjnikaaGreat
set_option linter.unusedSimpArgs false
set_option linter.unusedVariables false
namespace Go.Proofs.YthbfomcmjjnikaaGreat
open Go.RowKit Go.Sort

theorem runs_fuel : ∀ (f g : Nat) (xs : List Val), xs.length ≤ f → xs.length ≤ g → runsB f xs = runsB g xs ∧ runsN f xs = runsN g xs
  | 0, g, xs, h, _ => by
    have : xs = [] := List.eq_nil_of_length_eq_zero (by omega)
    subst this
    cases g <;> exact ⟨rfl, rfl⟩
  | f + 1, 0, xs, _, h => by
    have : xs = [] := List.eq_nil_of_length_eq_zero (by omega)
    subst this
    exact ⟨rfl, rfl⟩
  | f + 1, g + 1, [], _, _ => ⟨rfl, rfl⟩
  | f + 1, g + 1, x :: xs, h1, h2 => by
    have hp := ahead_pos (x := x) (xs := xs)
    have hd : ((x :: xs).drop (aheadN (x :: xs))).length = (x :: xs).length - aheadN (x :: xs) := List.length_drop
    have := runs_fuel f g ((x :: xs).drop (aheadN (x :: xs))) (by rw [hd]; simp at h1 ⊢; omega) (by rw [hd]; simp at h2 ⊢; omega)
    unfold runsB runsN
    rw [this.1, this.2]
    exact ⟨rfl, rfl⟩
theorem same_symm {x y : Val} (h : sameB x y = false) : sameB y x = false := by
  cases hs : sameB y x with
  | false => rfl
  | true =>
    have e := sameB_eq.1 hs
    subst e
    rw [hs] at h; cases h
theorem ahead_rep {m : Nat} {x : Val} {ys : List Val} (hm : 0 < m) (hd : ∀ z, ys.head? = some z → sameB x z = false) : aheadN (List.replicate m x ++ ys) = m := by
  obtain ⟨k, rfl⟩ : ∃ k, m = k + 1 := ⟨m - 1, by omega⟩
  have hh : (List.replicate (k + 1) x ++ ys).headD Val.null = x := by simp [List.replicate_succ]
  unfold aheadN
  rw [hh]
  refine while_len _ _ (k + 1) (fun i y hi hy => ?_) (by simp) (fun y hy => ?_)
  · rw [List.getElem?_append_left (by simp; omega), List.getElem?_replicate, if_pos hi] at hy
    injection hy with hy
    rw [← hy]; exact sameB_eq.2 rfl
  · rw [List.getElem?_append_right (by simp), List.length_replicate, Nat.sub_self, ← List.head?_eq_getElem?] at hy
    exact same_symm (hd y hy)
theorem runs_front {m : Nat} {x : Val} {ys : List Val} (hm : 0 < m) (hd : ∀ z, ys.head? = some z → sameB x z = false) :
    runsB (List.replicate m x ++ ys).length (List.replicate m x ++ ys) = (beL (m : Int) 4 4 ++ plainL x) ++ runsB ys.length ys ∧ runsN (List.replicate m x ++ ys).length (List.replicate m x ++ ys) = 1 + runsN ys.length ys := by
  have ha := ahead_rep hm hd
  obtain ⟨k, rfl⟩ : ∃ k, m = k + 1 := ⟨m - 1, by omega⟩
  have e : List.replicate (k + 1) x ++ ys = x :: (List.replicate k x ++ ys) := by simp [List.replicate_succ]
  have el : (x :: (List.replicate k x ++ ys)).length = (k + ys.length) + 1 := by simp
  have ed : (x :: (List.replicate k x ++ ys)).drop (k + 1) = ys := by simp
  rw [e] at ha ⊢
  rw [el]
  have hB : ∀ (f : Nat) (zs : List Val), runsB (f + 1) (x :: zs) = (beL (aheadN (x :: zs) : Int) 4 4 ++ plainL x) ++ runsB f ((x :: zs).drop (aheadN (x :: zs))) := fun _ _ => rfl
  have hN : ∀ (f : Nat) (zs : List Val), runsN (f + 1) (x :: zs) = 1 + runsN f ((x :: zs).drop (aheadN (x :: zs))) := fun _ _ => rfl
  rw [hB, hN, ha, ed]
  have := runs_fuel (k + ys.length) ys.length ys (by omega) (Nat.le_refl _)
  rw [this.1, this.2]
  exact ⟨rfl, rfl⟩
theorem runsG_forth {kind : Int} {count : Nat} (hk : kind = 1 ∨ kind = 2) : ∀ (n : Nat) {vs us : List Val} {l r : List UInt8}, runsG kind count n (vs, l) = some (us, r) →
    ∃ ys, us = vs ++ ys ∧ l = en (runsB ys.length ys) ++ r ∧ runsN ys.length ys = n ∧ (∀ x ∈ ys, Fits kind x) ∧ (∀ y z, vs.getLast? = some y → ys.head? = some z → sameB y z = false)
  | 0, vs, us, l, r, h => by
    unfold runsG at h
    injection h with h; injection h with h1 h2
    subst h1; subst h2
    exact ⟨[], by simp, by simp [runsB, en], rfl, by simp, by simp⟩
  | n + 1, vs, us, l, r, h => by
    unfold runsG at h
    cases hr : runD kind count vs l with
    | none => rw [hr] at h; cases h
    | some q =>
      obtain ⟨ws, l2⟩ := q
      rw [hr, Option.bind_some] at h
      obtain ⟨m, l1, x, h1, h2, h3, h4, h5, rfl⟩ := runD_some hr
      obtain ⟨ys, e1, e2, e3, e4, e5⟩ := runsG_forth hk n h
      obtain ⟨g1, _⟩ := numD_forth h1
      obtain ⟨g2, g3⟩ := plainD_forth hk h2
      have hlast : (vs ++ List.replicate m x).getLast? = some x := by
        rw [List.getLast?_append, List.getLast?_replicate, if_neg (by omega)]; rfl
      have hd : ∀ z, ys.head? = some z → sameB x z = false := fun z hz => e5 x z hlast hz
      obtain ⟨f1, f2⟩ := runs_front h3 hd
      refine ⟨List.replicate m x ++ ys, by rw [e1, List.append_assoc], ?_, by rw [f2, e3, Nat.add_comm], fun y hy => ?_, fun y z hy hz => ?_⟩
      · rw [f1, en_append, en_append, List.append_assoc, List.append_assoc, ← e2, ← g2]
        exact g1
      · rcases List.mem_append.1 hy with hy | hy
        · rw [List.eq_of_mem_replicate hy]; exact g3
        · exact e4 y hy
      · have : z = x := by
          obtain ⟨k, rfl⟩ : ∃ k, m = k + 1 := ⟨m - 1, by omega⟩
          simp [List.replicate_succ] at hz
          exact hz.symm
        rw [this]; exact h5 y hy
theorem strict_pair {W : List Val} (h : strictB W = true) : W.Pairwise fun x y => ordV x y < 0 := by
  rw [List.pairwise_iff_getElem]
  intro i j hi hj hij
  exact strict_all h i j _ _ hij (List.getElem?_eq_getElem hi) (List.getElem?_eq_getElem hj)
theorem strict_rises {W : List Val} (h : strictB W = true) : Rises W := (strict_pair h).imp fun h => Int.le_of_lt h
theorem strict_nodup {W : List Val} (h : strictB W = true) : W.Nodup := (strict_pair h).imp fun {a b} h e => by
  subst e
  rw [ord_self] at h
  omega
theorem strict_uniq {V W : List Val} (hV : strictB V = true) (hW : strictB W = true) (hm : ∀ x, x ∈ V ↔ x ∈ W) (hc : ∀ x ∈ V, cleanV x = x) : V = W :=
  rises_eq (strict_rises hV) (strict_rises hW) ((List.perm_ext_iff_of_nodup (strict_nodup hV) (strict_nodup hW)).2 hm) hc
theorem fits_clean {kind : Int} {x : Val} (h : Fits kind x) : cleanV x = x := by
  rcases h with ⟨_, n, _, _, rfl⟩ | ⟨_, s, _, rfl⟩ <;> rfl
theorem words_of {vs W : List Val} (hs : strictB W = true) (hm : ∀ x, x ∈ vs ↔ x ∈ W) (hc : ∀ x ∈ vs, cleanV x = x) : WordsOf vs W := by
  have hp := List.mergeSort_perm vs (fun a b => decide (ordV a b ≤ 0))
  have hr : Rises (vs.mergeSort fun a b => decide (ordV a b ≤ 0)) := by
    have := List.pairwise_mergeSort (le := fun a b => decide (ordV a b ≤ 0)) (fun a b c h1 h2 => by
      simp only [decide_eq_true_eq] at h1 h2 ⊢
      exact ord_le h1 h2) (fun a b => by
      have := ord_anti a b
      simp only [Bool.or_eq_true, decide_eq_true_eq]
      omega) vs
    exact this.imp fun h => by simpa using h
  have hw : WordsOf vs (compL (vs.mergeSort fun a b => decide (ordV a b ≤ 0))) := ⟨_, hp, hr, rfl⟩
  refine ⟨_, hp, hr, ?_⟩
  symm
  refine strict_uniq (words_strict hw hc) hs (fun x => ?_) (fun x hx => hc x (hp.mem_iff.1 ((compL_sub _).mem hx)))
  rw [← hm x, ← hp.mem_iff]
  exact ⟨fun h => (compL_sub _).mem h, fun h => compL_mem h⟩
theorem wordsD_forth {kind : Int} (hk : kind = 1 ∨ kind = 2) {count : Nat} {l r : List UInt8} {vs : List Val} (h : wordsD kind count l = some (vs, r)) :
    ∃ W, WordsOf vs W ∧ l = en (wordsB W vs) ++ r ∧ ∀ x ∈ vs, Fits kind x := by
  obtain ⟨m, l1, W, l2, t, h1, h2, h3, h4, h5, h6, rfl⟩ := wordsD_some h
  have hWl := (plainsD_len h2).1
  obtain ⟨e1, _⟩ := numD_forth h1
  obtain ⟨e2, f2⟩ := plainsD_forth hk m h2
  have e3 := bitsD_forth h4
  have hat : ∀ k, k < m → W[k]? = some (W.getD k .null) := fun k hk => by
    have : k < W.length := by omega
    rw [List.getD_eq_getElem?_getD, List.getElem?_eq_getElem this]; rfl
  have hmem : ∀ x, x ∈ ((numsOf t (bl (m - 1)) count).map fun k => W.getD k .null) ↔ x ∈ W := fun x => by
    constructor
    · intro hx
      obtain ⟨k, hk, rfl⟩ := List.mem_map.1 hx
      exact List.mem_of_getElem? (hat k (h5 k hk))
    · intro hx
      obtain ⟨i, hi, rfl⟩ := List.getElem_of_mem hx
      refine List.mem_map.2 ⟨i, h6 i (by omega), ?_⟩
      rw [List.getD_eq_getElem?_getD, List.getElem?_eq_getElem hi]; rfl
  have hfit : ∀ x ∈ ((numsOf t (bl (m - 1)) count).map fun k => W.getD k .null), Fits kind x := fun x hx => f2 x ((hmem x).1 hx)
  refine ⟨W, words_of h3 hmem (fun x hx => fits_clean (hfit x hx)), ?_, hfit⟩
  have hpos : (((numsOf t (bl (m - 1)) count).map fun k => W.getD k .null).map (posN W)) = numsOf t (bl (m - 1)) count := by
    rw [List.map_map]
    conv => rhs; rw [← List.map_id (numsOf t (bl (m - 1)) count)]
    apply List.map_congr_left
    intro k hk
    exact strict_pos h3 (hat k (h5 k hk))
  unfold wordsB
  rw [hpos, hWl, List.length_map, nums_len, en_append, en_append, List.append_assoc, List.append_assoc, ← e3, ← e2]
  exact e1
theorem off_sint {p k : Nat} (hk : k < 18446744073709551616) : offN (sint p) (.num (sint (p + k))) = k := by
  have e : (Val.num (sint (p + k))).n = sint (p + k) := rfl
  unfold offN
  rw [e]
  unfold sint wrap64
  omega
theorem least_nil : leastI [] = sint 0 := by
  have : sint 0 = 0 := by unfold sint wrap64; omega
  rw [this]; rfl
theorem least_cons (y : Val) (ys : List Val) : leastI (y :: ys) = (minFrom y ys).n := rfl
theorem num_n (n : Int) : (Val.num n).n = n := rfl
theorem off_fit {ks : List Nat} {p : Nat} {vs : List Val} (h2 : ks.map (fun k => Val.num (sint (p + k))) = vs) : ∀ x ∈ vs, Fits 1 x := by
  intro x hx
  rw [← h2] at hx
  obtain ⟨k, _, rfl⟩ := List.mem_map.1 hx
  exact fits_num _
theorem off_map1 (p : Nat) : ∀ (ks : List Nat), (∀ k ∈ ks, k < 18446744073709551616) → (ks.map (fun k => Val.num (sint (p + k)))).map (offN (sint p)) = ks
  | [], _ => rfl
  | k :: ks, h => by rw [List.map_cons, List.map_cons, off_sint (h k (List.mem_cons_self ..)), off_map1 p ks (fun j hj => h j (List.mem_cons_of_mem _ hj))]
theorem off_map {ks : List Nat} {p : Nat} {vs : List Val} (hk : ∀ k ∈ ks, k < 18446744073709551616) (h2 : ks.map (fun k => Val.num (sint (p + k))) = vs) : vs.map (offN (sint p)) = ks := by
  rw [← h2]; exact off_map1 p ks hk
theorem off_least {ks : List Nat} {p : Nat} {vs : List Val} (c1 : ∀ k ∈ ks, sint p ≤ sint (p + k)) (c3 : 0 ∈ ks) (h2 : ks.map (fun k => Val.num (sint (p + k))) = vs) : leastI vs = sint p := by
  have hmem : Val.num (sint p) ∈ vs := by
    rw [← h2]
    refine List.mem_map.2 ⟨0, c3, ?_⟩
    rw [Nat.add_zero]
  have hge : ∀ x ∈ vs, ∃ n, x = .num n ∧ sint p ≤ n := by
    intro x hx
    rw [← h2] at hx
    obtain ⟨k, hk, rfl⟩ := List.mem_map.1 hx
    exact ⟨_, rfl, c1 k hk⟩
  clear h2 c1 c3
  cases vs with
  | nil => cases hmem
  | cons y ys =>
    obtain ⟨s1, s2⟩ := min_spec2 ys y
    obtain ⟨n, e, hn⟩ := hge _ s1
    have h3 := s2 _ hmem
    rw [least_cons]
    rw [e] at h3 ⊢
    have h4 := (ord_numle _ _).1 h3
    rw [num_n]
    exact Int.le_antisymm h4 hn
theorem offs_bytes {count p d : Nat} {l l1 l2 t r : List UInt8} {vs : List Val} (hM : numD 8 l = some (p, l1)) (hd : numD 1 l1 = some (d, l2)) (hb : bitsD count d l2 = some (t, r))
    (hw : widL (sint p) vs = d) (ho : vs.map (offN (sint p)) = numsOf t d count) (hl : vs.length = count) : l = en (offsB (sint p) vs) ++ r := by
  obtain ⟨e1, hp⟩ := numD_forth hM
  obtain ⟨e2, _⟩ := numD_forth hd
  have e3 := bitsD_forth hb
  have hp2 : p < 18446744073709551616 := Nat.lt_of_lt_of_le hp (by decide)
  unfold offsB
  rw [hw, ho, hl, sint_wrap hp2, en_append, en_append, List.append_assoc, List.append_assoc, ← e3, ← e2]
  exact e1
theorem offsetsD_some {count : Nat} {l r : List UInt8} {vs : List Val} (h : offsetsD count l = some (vs, r)) : ∃ p l1 d l2 t, numD 8 l = some (p, l1) ∧ numD 1 l1 = some (d, l2) ∧ d ≤ 64 ∧ bitsD count d l2 = some (t, r) ∧
    (∀ k ∈ numsOf t d count, sint p ≤ sint (p + k)) ∧ d = bl ((numsOf t d count).foldl max 0) ∧ (if count = 0 then p = 0 else 0 ∈ numsOf t d count) ∧ (numsOf t d count).map (fun k => Val.num (sint (p + k))) = vs := by
  unfold offsetsD at h
  cases hM : numD 8 l with
  | none => rw [hM] at h; cases h
  | some p =>
    rw [hM, Option.bind_some] at h
    cases hd : numD 1 p.2 with
    | none => rw [hd] at h; cases h
    | some q =>
      rw [hd, Option.bind_some] at h
      split at h
      · rename_i hd64
        cases hb : bitsD count q.1 q.2 with
        | none => rw [hb] at h; cases h
        | some t =>
          rw [hb, Option.bind_some] at h
          obtain ⟨⟨c1, c2, c3⟩, h2⟩ := ite_some h
          injection h2 with h2 h3
          subst h3
          exact ⟨p.1, p.2, q.1, q.2, t.1, rfl, hd, hd64, hb, c1, c2, c3, h2⟩
      · cases h
theorem offsD_forth {count : Nat} {l r : List UInt8} {vs : List Val} (h : offsetsD count l = some (vs, r)) : l = en (offsB (leastI vs) vs) ++ r ∧ ∀ x ∈ vs, Fits 1 x := by
  obtain ⟨p, l1, d, l2, t, hM, hd, hd64, hb, c1, c2, c3, h2⟩ := offsetsD_some h
  have hk64 : ∀ k ∈ numsOf t d count, k < 18446744073709551616 := by
    intro k hk
    unfold numsOf at hk
    obtain ⟨i, _, rfl⟩ := List.mem_map.1 hk
    exact numAt_lt _ _ _ hd64
  have hlen : vs.length = count := by rw [← h2, List.length_map, nums_len]
  have hleast : leastI vs = sint p := by
    by_cases h0 : count = 0
    · rw [if_pos h0] at c3
      have : vs = [] := List.eq_nil_of_length_eq_zero (by omega)
      rw [this, c3]; exact least_nil
    · rw [if_neg h0] at c3
      exact off_least c1 c3 h2
  have hoff := off_map hk64 h2
  rw [hleast]
  exact ⟨offs_bytes hM hd hb (by rw [widL_fold, hoff]; exact c2.symm) hoff hlen, off_fit h2⟩
theorem valuesD_forth {sch : Nat} {kind : Int} (hk : kind = 1 ∨ kind = 2) {count : Nat} {l r : List UInt8} {vs : List Val} (h : valuesD sch kind count l = some (vs, r)) :
    ∃ b, BodyB sch vs b ∧ l = en b ++ r ∧ (∀ x ∈ vs, Fits kind x) ∧ (sch = 4 → kind = 1) ∧ 1 ≤ sch ∧ sch ≤ 4 := by
  unfold valuesD at h
  split at h
  · rename_i hs
    obtain ⟨e, f⟩ := plainsD_forth hk _ h
    exact ⟨_, .inl ⟨hs, rfl⟩, e, f, by omega, by omega, by omega⟩
  · split at h
    · rename_i hs
      cases hn : numD 4 l with
      | none => rw [hn] at h; cases h
      | some p =>
        obtain ⟨m, l1⟩ := p
        rw [hn, Option.bind_some] at h
        cases hr : runsD kind count m l1 with
        | none => rw [hr] at h; cases h
        | some q =>
          rw [hr, Option.bind_some] at h
          obtain ⟨hlen, h2⟩ := ite_some h
          rw [h2, runsD_G] at hr
          obtain ⟨ys, e1, e2, e3, e4, _⟩ := runsG_forth hk m hr
          rw [List.nil_append] at e1
          subst e1
          obtain ⟨g1, _⟩ := numD_forth hn
          refine ⟨_, .inr (.inl ⟨hs, rfl⟩), ?_, e4, by omega, by omega, by omega⟩
          rw [e3, en_append, List.append_assoc, ← e2]
          exact g1
    · split at h
      · rename_i hs
        obtain ⟨W, h1, h2, h3⟩ := wordsD_forth hk h
        exact ⟨_, .inr (.inr (.inl ⟨hs, W, h1, rfl⟩)), h2, h3, by omega, by omega, by omega⟩
      · split at h
        · rename_i hs
          obtain ⟨rfl, rfl⟩ := hs
          obtain ⟨h1, h2⟩ := offsD_forth h
          exact ⟨_, .inr (.inr (.inr ⟨rfl, rfl⟩)), h1, h2, fun _ => rfl, by omega, by omega⟩
        · cases h
theorem spread_forth : ∀ (nl : List Bool) (vs : List Val), nl.count false = vs.length → (∀ v ∈ vs, nullB v = false) → (spreadL nl vs).map nullB = nl ∧ standL (spreadL nl vs) = vs ∧ ∀ x ∈ spreadL nl vs, x.k = 0 → x = .null
  | [], vs, h, _ => by
    have : vs = [] := List.eq_nil_of_length_eq_zero (by simpa using h.symm)
    subst this
    exact ⟨rfl, rfl, by simp [spreadL]⟩
  | true :: nl, vs, h, hv => by
    obtain ⟨h1, h2, h3⟩ := spread_forth nl vs (by simpa using h) hv
    refine ⟨by rw [spreadL, List.map_cons, h1]; rfl, ?_, ?_⟩
    · rw [spreadL]
      unfold standL at h2 ⊢
      rw [List.filter_cons]
      simp [Val.null, h2]
    · intro x hx
      rcases List.mem_cons.1 hx with rfl | hx
      · exact fun _ => rfl
      · exact h3 x hx
  | false :: nl, vs, h, hv => by
    cases vs with
    | nil => simp at h
    | cons v vs =>
      obtain ⟨h1, h2, h3⟩ := spread_forth nl vs (by simpa using h) (fun y hy => hv y (List.mem_cons_of_mem _ hy))
      have hn := hv v (by simp)
      have hk : (v.k != 0) = true := by
        unfold nullB at hn
        rw [bne, hn]; rfl
      refine ⟨?_, ?_, ?_⟩
      · rw [spreadL, List.map_cons]
        show nullB v :: (spreadL nl vs).map nullB = _
        rw [hn, h1]
      · rw [spreadL]
        unfold standL at h2 ⊢
        rw [List.filter_cons]
        show (if (v.k != 0) = true then v :: List.filter _ (spreadL nl vs) else _) = _
        rw [if_pos hk, h2]
      · intro x hx
        rcases List.mem_cons.1 hx with hx | hx
        · intro h0
          exfalso
          have : x = v := hx
          rw [this] at h0
          simp [h0] at hk
        · exact h3 x hx
theorem fits_nn {kind : Int} {x : Val} (h : Fits kind x) : nullB x = false := by
  rcases h with ⟨_, n, _, _, rfl⟩ | ⟨_, s, _, rfl⟩ <;> rfl
/-- What is read was written so. -/
theorem columnD_forth {l : List UInt8} {sch : Nat} {kind : Int} {xs : List Val} (h : columnD l = some (sch, kind, xs)) :
    ∃ b, (kind = 1 ∨ kind = 2) ∧ xs.length ≤ 4096 ∧ 1 ≤ sch ∧ sch ≤ 4 ∧ (sch = 4 → kind = 1) ∧ BodyB sch (standL xs) b ∧ l = en (headB sch kind.toNat xs ++ b) ∧ (∀ x ∈ standL xs, Fits kind x) ∧ (∀ x ∈ xs, x.k = 0 → x = .null) := by
  obtain ⟨l1, kd, l2, n, l3, nl, l4, vs, h1, h2, rfl, hk, h3, hn, h4, h5, rfl⟩ := columnD_some h
  have hki : ((kd : Int)) = 1 ∨ (kd : Int) = 2 := by omega
  obtain ⟨b, b1, b2, b3, b4, b5, b6⟩ := valuesD_forth hki h5
  have hvl := valuesD_len h5
  have hnl := (nullsD_len h4).1
  obtain ⟨s1, s2, s3⟩ := spread_forth nl vs hvl.symm (fun v hv => fits_nn (b3 v hv))
  have hlen : (spreadL nl vs).length = n := by
    have := congrArg List.length s1
    rw [List.length_map] at this
    omega
  refine ⟨b, hki, by omega, b5, b6, b4, by rw [s2]; exact b1, ?_, by rw [s2]; exact b3, s3⟩
  obtain ⟨e1, _⟩ := numD_forth h1
  obtain ⟨e2, _⟩ := numD_forth h2
  obtain ⟨e3, _⟩ := numD_forth h3
  have e4 := nullsD_forth h4 s1
  rw [List.append_nil] at b2
  unfold headB
  rw [hlen, Int.toNat_natCast, en_append, en_append, en_append, en_append, List.append_assoc, List.append_assoc, List.append_assoc, ← b2, ← e4, ← e3, ← e2]
  exact e1
end Go.Proofs.YthbfomcmjjnikaaGreat
set_option linter.unusedSimpArgs false
set_option linter.unusedVariables false
namespace Go.Proofs.YthbfomcmjjnikaaGreat
open Go.RowKit Go.Sort

/-- Where the program reads, the document reads the same. -/
theorem numR_of {n m : Nat} {l r : List UInt8} (h : numD n l = some (m, r)) : takeR l false n = (l.take n, r, false) ∧ m = beV (l.take n) := by
  obtain ⟨g1, rfl, rfl⟩ := numD_some h
  exact ⟨takeR_of (by simp [takeD, g1]), rfl⟩
theorem runsR_of {kind : Int} {count : Nat} : ∀ (n : Nat) {l r : List UInt8} {vs : List Val}, runsD kind count n l = some (vs, r) → runsR kind count l false n = (vs, r, false)
  | 0, l, r, vs, h => by
    unfold runsD at h
    injection h with h; injection h with h1 h2
    subst h1; subst h2; rfl
  | n + 1, l, r, vs, h => by
    unfold runsD at h
    cases hp : runsD kind count n l with
    | none => rw [hp] at h; cases h
    | some p =>
      obtain ⟨us, l1⟩ := p
      rw [hp, Option.bind_some] at h
      dsimp only at h
      obtain ⟨m, l2, x, g1, g2, g3, g4, _, rfl⟩ := runD_some h
      rw [runsR_step (runsR_of n hp)]
      obtain ⟨e1, e2⟩ := numR_of g1
      unfold runR
      rw [e1]
      simp only
      rw [plainR_of g2, ← e2]
      have : cntR count m us.length = m := by unfold cntR; omega
      rw [this]
theorem bitsR_of {count d : Nat} {l t r : List UInt8} (h : bitsD count d l = some (t, r)) : takeR l false (bytesN count d) = (t, r, false) := by
  unfold bitsD at h
  cases ht : takeD (bytesN count d) l with
  | none => rw [ht] at h; cases h
  | some p =>
    rw [ht, Option.bind_some] at h
    have e := (ite_some h).2
    subst e
    exact takeR_of ht
theorem offsQ_of {count : Nat} {l r : List UInt8} {vs : List Val} (h : offsetsD count l = some (vs, r)) : offsQ count l false = (vs, r, false) := by
  obtain ⟨p, l1, d, l2, t, hM, hd, hd64, hb, c1, c2, c3, h2⟩ := offsetsD_some h
  obtain ⟨e1, e2⟩ := numR_of hM
  obtain ⟨e3, e4⟩ := numR_of hd
  have e5 := bitsR_of hb
  unfold offsQ
  rw [e1]
  simp only
  rw [e3]
  simp only
  rw [← e4, ← e2, if_neg (by omega), e5]
  simp only
  unfold bitsL
  rw [if_neg (by decide), h2]
/-- Words by the document's reader. -/
def wordsQ (kind : Int) (m : Nat) (l : List UInt8) (bad : Bool) : List Val × List UInt8 × Bool :=
  let W := WR kind l bad
  let T := takeR W.2.1 W.2.2 (bytesN m (bl (W.1.length - 1)))
  let ks := bitsL T.1 T.2.2 (bl (W.1.length - 1)) m
  (pickW W.1 ks, T.2.1, T.2.2 || badW9 W.1 ks)
theorem wordsQ_of {kind : Int} {count : Nat} {l r : List UInt8} {vs : List Val} (h : wordsD kind count l = some (vs, r)) : wordsQ kind count l false = (vs, r, false) := by
  obtain ⟨m, l1, W, l2, t, g1, g2, g3, g4, g5, g6, rfl⟩ := wordsD_some h
  obtain ⟨e1, e2⟩ := numR_of g1
  have e3 : WR kind l false = (W, l2, false) := by
    unfold WR
    rw [e1]
    simp only
    rw [← e2]
    exact plainsR_of m g2
  have hl := (plainsD_len g2).1
  have e4 := bitsR_of g4
  unfold wordsQ
  rw [e3]
  simp only
  rw [hl, e4]
  simp only
  have e5 : bitsL t false (bl (m - 1)) count = numsOf t (bl (m - 1)) count := rfl
  rw [e5]
  obtain ⟨e6, e7⟩ := pick_all (ws := W) (ks := numsOf t (bl (m - 1)) count) (by rw [hl]; exact g5)
  rw [e6, e7]
  rfl
/-- What standing reads. -/
def standQ (sch : Nat) (kind : Int) (m : Nat) (l : List UInt8) (bad : Bool) : List Val × List UInt8 × Bool :=
  if sch = 1 then plainsR kind l bad m
  else if sch = 2 then runsR kind m (takeR l bad 4).2.1 (takeR l bad 4).2.2 (beV (takeR l bad 4).1)
  else if sch = 3 then wordsQ kind m l bad
  else offsQ m l bad
theorem standQ_of {sch : Nat} {kind : Int} {m : Nat} {l r : List UInt8} {vs : List Val} (h : valuesD sch kind m l = some (vs, r)) : standQ sch kind m l false = (vs, r, false) := by
  unfold valuesD at h
  unfold standQ
  split at h
  · rename_i h1
    rw [if_pos h1]
    exact plainsR_of m h
  · rename_i h1
    rw [if_neg h1]
    split at h
    · rename_i h2
      rw [if_pos h2]
      cases hn : numD 4 l with
      | none => rw [hn] at h; cases h
      | some p =>
        rw [hn, Option.bind_some] at h
        cases hr : runsD kind m p.1 p.2 with
        | none => rw [hr] at h; cases h
        | some q =>
          rw [hr, Option.bind_some] at h
          have e := (ite_some h).2
          subst e
          obtain ⟨e1, e2⟩ := numR_of (m := p.1) (r := p.2) hn
          rw [e1]
          simp only
          rw [← e2]
          exact runsR_of p.1 hr
    · rename_i h2
      rw [if_neg h2]
      split at h
      · rename_i h3
        rw [if_pos h3]
        exact wordsQ_of h
      · rename_i h3
        rw [if_neg h3]
        split at h
        · exact offsQ_of h
        · cases h
end Go.Proofs.YthbfomcmjjnikaaGreat
