import Derived.Test.YtljebbodcehmpabGreatRefC
import Derived.Test.YtljebbodcehmpabGreatPackX
set_option linter.unusedSimpArgs false
set_option linter.unusedVariables false
namespace Go.Proofs.YtljebbodcehmpabGreat
open Go.RowKit Go.Sort

theorem ord_num (a b : Int) : ordV (.num a) (.num b) = cmpI a b := by
  unfold ordV
  show orI (cmpI 1 1) (cmpI a b) (cmpB ⟨#[]⟩ ⟨#[]⟩) = _
  rw [cmpI_self, cmpB_nil, orI_last]
def In63 (n : Int) : Prop := -9223372036854775808 ≤ n ∧ n ≤ 9223372036854775807
def Nums (ys : List Val) : Prop := ∀ y ∈ ys, ∃ n, In63 n ∧ y = .num n
theorem ord_nle {x y : Val} (hx : ∃ n, In63 n ∧ x = .num n) (hy : ∃ n, In63 n ∧ y = .num n) : ordV x y ≤ 0 ↔ x.n ≤ y.n := by
  obtain ⟨a, _, rfl⟩ := hx
  obtain ⟨b, _, rfl⟩ := hy
  rw [ord_num]
  show cmpI a b ≤ 0 ↔ a ≤ b
  unfold cmpI
  split
  · omega
  · split <;> omega
theorem min_spec : ∀ (ys : List Val) (m : Val), minFrom m ys ∈ m :: ys ∧ ∀ y ∈ m :: ys, ordV (minFrom m ys) y ≤ 0
  | [], m => ⟨by simp [minFrom], fun y hy => by simp at hy; subst hy; rw [minFrom, List.foldl_nil, ord_self]; omega⟩
  | z :: ys, m => by
    have e : minFrom m (z :: ys) = minFrom (if ordV z m < 0 then z else m) ys := rfl
    rw [e]
    obtain ⟨h1, h2⟩ := min_spec ys (if ordV z m < 0 then z else m)
    have hle := h2 _ (List.mem_cons_self ..)
    by_cases hz : ordV z m < 0
    · rw [if_pos hz] at h1 h2 hle ⊢
      refine ⟨?_, fun y hy => ?_⟩
      · rcases List.mem_cons.1 h1 with h | h
        · rw [h]; simp
        · simp [h]
      · rcases List.mem_cons.1 hy with rfl | hy
        · exact ord_le hle (by omega)
        · rcases List.mem_cons.1 hy with rfl | hy
          · exact hle
          · exact h2 y (by simp [hy])
    · rw [if_neg hz] at h1 h2 hle ⊢
      have hmz : ordV m z ≤ 0 := by have := ord_anti m z; omega
      refine ⟨?_, fun y hy => ?_⟩
      · rcases List.mem_cons.1 h1 with h | h
        · rw [h]; simp
        · simp [h]
      · rcases List.mem_cons.1 hy with rfl | hy
        · exact hle
        · rcases List.mem_cons.1 hy with rfl | hy
          · exact ord_le hle hmz
          · exact h2 y (by simp [hy])
theorem comp_head (xs : List Val) (h : 0 < xs.length) : ∀ j, j < xs.length → (compT xs j)[0]? = some (atL xs 0)
  | 0, _ => by
    rw [compT, List.getElem?_take, if_pos (by omega)]
    exact atL_some h
  | j + 1, hj => by
    have ih := comp_head xs h j (by omega)
    rw [compT, List.getElem?_append_left (List.getElem?_eq_some_iff.1 ih).1]
    exact ih
theorem comp_last (xs : List Val) : ∀ j, j < xs.length → (compT xs j).getLast? = some (atL xs j)
  | 0, h => by
    rw [compT, List.take_one, List.head?_eq_getElem?, atL_some h]
    rfl
  | j + 1, h => by
    have ih := comp_last xs j (by omega)
    rw [comp_next (atL_some h) (atL_some (by omega : j < xs.length))]
    by_cases hs : sameB (atL xs (j + 1)) (atL xs j) = true
    · rw [if_pos hs, List.append_nil, ih, sameB_eq.1 hs]
    · rw [if_neg hs, List.getLast?_append]
      simp
theorem bl_mono {a b : Nat} (h : a ≤ b) : bl a ≤ bl b := bl_le (Nat.lt_of_le_of_lt h (bl_lt b))
theorem wid_upto (least : Int) (D : Nat) : ∀ (xs : List Val) (m : Nat), m ≤ D → (∀ x ∈ xs, bl (offN least x) ≤ D) → xs.foldl (fun m x => max m (bl (offN least x))) m ≤ D
  | [], m, h, _ => h
  | x :: xs, m, h, h2 => by
    rw [List.foldl_cons]
    refine wid_upto least D xs _ ?_ (fun y hy => h2 y (by simp [hy]))
    have := h2 x (by simp)
    omega
/-- The offsets of both sides. -/
theorem offs_same {ys S : List Val} (hn : Nums ys) (hp : S.Perm ys) (hr : Rises S) : leastI ys = firstI (compL S) ∧ widL (leastI ys) ys = bl (farN (compL S)) := by
  by_cases h0 : ys.length = 0
  · have e : ys = [] := List.eq_nil_of_length_eq_zero h0
    subst e
    have e2 : S = [] := List.Perm.eq_nil hp
    subst e2
    exact ⟨rfl, rfl⟩
  · have hSl : S.length = ys.length := hp.length_eq
    have hS0 : 0 < S.length := by omega
    have hWm : ∀ k, k < S.length → atL S k ∈ ys := fun k hk => hp.mem_iff.1 (List.mem_of_getElem? (atL_some hk))
    obtain ⟨x, t, rfl⟩ : ∃ x t, ys = x :: t := by
      cases ys with
      | nil => simp at h0
      | cons x t => exact ⟨x, t, rfl⟩
    obtain ⟨m1, m2⟩ := min_spec t x
    have hW0 : (compL S)[0]? = some (atL S 0) := comp_head S hS0 _ (by omega)
    have hWl := (List.getElem?_eq_some_iff.1 hW0).1
    have hf : firstI (compL S) = (atL S 0).n := by rw [firstI, if_neg (by omega), atL_of hW0]
    have hla : lastI (compL S) = (atL S (S.length - 1)).n := by
      have h1 := comp_last S (S.length - 1) (by omega)
      rw [List.getLast?_eq_getElem?] at h1
      rw [lastI, if_neg (by omega)]
      exact congrArg Val.n (atL_of h1)
    have lo : ∀ y ∈ x :: t, (atL S 0).n ≤ y.n := fun y hy => by
      obtain ⟨i, hi, e⟩ := List.getElem_of_mem (hp.mem_iff.2 hy)
      have := hr.at (Nat.zero_le i) (atL_some hS0) (by rw [List.getElem?_eq_getElem hi, e])
      exact (ord_nle (hn _ (hWm 0 hS0)) (hn y hy)).1 this
    have hi' : ∀ y ∈ x :: t, y.n ≤ (atL S (S.length - 1)).n := fun y hy => by
      obtain ⟨i, hi, e⟩ := List.getElem_of_mem (hp.mem_iff.2 hy)
      have := hr.at (show i ≤ S.length - 1 by omega) (by rw [List.getElem?_eq_getElem hi, e]) (atL_some (show S.length - 1 < S.length by omega))
      exact (ord_nle (hn y hy) (hn _ (hWm _ (by omega)))).1 this
    have hle : leastI (x :: t) = (atL S 0).n := by
      show (minFrom x t).n = _
      have h1 := lo _ m1
      have h2 := (ord_nle (hn _ m1) (hn _ (hWm 0 hS0))).1 (m2 _ (hWm 0 hS0))
      omega
    refine ⟨hle.trans hf.symm, ?_⟩
    rw [hle]
    have hfar : farN (compL S) = offN (atL S 0).n (atL S (S.length - 1)) := by unfold farN offN; rw [hla, hf]
    rw [hfar]
    have hoff : ∀ y ∈ x :: t, offN (atL S 0).n y = (y.n - (atL S 0).n).toNat := fun y hy => by
      obtain ⟨b, hb, e⟩ := hn y hy
      obtain ⟨c, hc, e2⟩ := hn _ (hWm 0 hS0)
      have h1 := lo y hy
      have ey : y.n = b := by rw [e]; rfl
      have ec : (atL S 0).n = c := by rw [e2]; rfl
      have h3 : c ≤ b := by rw [← ec, ← ey]; exact h1
      unfold offN
      rw [ey, ec]
      unfold In63 at hb hc
      congr 1
      omega
    apply Nat.le_antisymm
    · refine wid_upto _ _ _ _ (Nat.zero_le _) fun y hy => bl_mono ?_
      rw [hoff y hy, hoff _ (hWm _ (by omega))]
      have := hi' y hy
      omega
    · exact (wid_ge _ _ 0).2 _ (hWm _ (by omega))
/-- Both sides write the same. -/
theorem body_same {n : Nat} {ys : List Val} {b b' : List Int} (hc : ∀ y ∈ ys, cleanV y = y) (hn : n = 4 → Nums ys) (h1 : BodyB n ys b) (h2 : RBody n ys b') : b = b' := by
  rcases h1 with ⟨e, h1⟩ | ⟨e, h1⟩ | ⟨e, W, ⟨S1, p1, r1, e1⟩, h1⟩ | ⟨e, h1⟩ <;> rcases h2 with ⟨e', h2⟩ | ⟨e', h2⟩ | ⟨e', S2, p2, r2, h2⟩ | ⟨e', S2, p2, r2, h2⟩ <;> (try omega)
  · rw [h1, h2]
  · rw [h1, h2, (runs_same ys.length ys hc).1, (runs_same ys.length ys hc).2]
  · have hc1 : ∀ y ∈ S1, cleanV y = y := fun y hy => hc y (p1.mem_iff.1 hy)
    have hS : S1 = S2 := rises_eq r1 r2 (p1.trans p2.symm) hc1
    subst hS
    rw [h1, h2, e1, unl_compL hc1]
  · have hc2 : ∀ y ∈ S2, cleanV y = y := fun y hy => hc y (p2.mem_iff.1 hy)
    obtain ⟨q1, q2⟩ := offs_same (hn e) p2 r2
    rw [h1, h2, unl_compL hc2]
    unfold offsB offsR
    have e3 : (((lastI (compL S2) - firstI (compL S2)) % 18446744073709551616).toNat) = farN (compL S2) := rfl
    rw [e3, ← q2, ← q1]
end Go.Proofs.YtljebbodcehmpabGreat
