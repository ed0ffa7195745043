import Derived.Test.YtifohbapfciniabTabB
set_option linter.unusedSimpArgs false
set_option linter.unusedVariables false
namespace Go.Proofs.Ytifohbapfciniab
open Go.RowKit Go.Sort

/-- Two slices of the call's own don't share their rows. -/
def Apart (u v : Value) : Prop := u.ownBlock = none ∨ u.ownBlock ≠ v.ownBlock
theorem Apart.symm {u v : Value} (h : Apart u v) : Apart v u := by
  unfold Apart at *
  cases hv : v.ownBlock with
  | none => exact .inl rfl
  | some g => right; intro e; rcases h with h | h
              · rw [h] at e; cases e
              · exact h (by rw [hv, e])
theorem apart_types {w : World} {base e size base' e' size' : Nat} {v v' : Value} {m m' : Nat} {xs xs' : List Value} (h : w.ownsRow base e size v m xs) (h' : w.ownsRow base' e' size' v' m' xs') (hne : e ≠ e') : Apart v v' := own_own h h' hne
/-- A list of rows of the call's own. -/
def OwnRR (w : World) (base : Nat) (v : Value) (rs : List (List Val)) (cs : List Value) : Prop :=
  w.ownsRow base 22 1 v rs.length cs ∧ (∀ (j : Nat) r, rs[j]? = some r → ∃ u, cs[j]? = some u ∧ OwnV w base u r) ∧ (∀ (j j' : Nat) u u', j ≠ j' → cs[j]? = some u → cs[j']? = some u' → Apart u u')
theorem OwnRR.nil (w : World) (base : Nat) : OwnRR w base (.slice none 0 0) [] [] := ⟨World.ownsRow_nil _ _ _ _, by simp, by simp⟩
theorem OwnRR.later {w w' : World} {base : Nat} {v : Value} {rs : List (List Val)} {cs : List Value} (h : OwnRR w base v rs cs) (hb : Below w.heap.size w w') : OwnRR w' base v rs cs :=
  ⟨own_later h.1 hb, fun j r hr => by obtain ⟨u, e, ho⟩ := h.2.1 j r hr; exact ⟨u, e, ho.later hb⟩, h.2.2⟩
theorem OwnRR.len {w : World} {base : Nat} {v : Value} {rs : List (List Val)} {cs : List Value} (h : OwnRR w base v rs cs) : cs.length = rs.length := by have := h.1.1; omega
theorem OwnRR.at {w : World} {base : Nat} {v : Value} {rs : List (List Val)} {cs : List Value} (h : OwnRR w base v rs cs) {j : Nat} {u : Value} (hu : cs[j]? = some u) : ∃ r, rs[j]? = some r ∧ OwnV w base u r := by
  have hj : j < rs.length := by rw [← h.len]; exact (List.getElem?_eq_some_iff.1 hu).1
  obtain ⟨u', e, ho⟩ := h.2.1 j _ (List.getElem?_eq_getElem hj)
  rw [hu] at e; cases e
  exact ⟨_, List.getElem?_eq_getElem hj, ho⟩
/-- append(rows, nil). -/
theorem OwnRR.push {w w1 : World} {base : Nat} {v v' : Value} {rs : List (List Val)} {cs : List Value} {o : Obj} (h : OwnRR w base v rs cs) (ho : w1.ownsRow base 22 1 v' (rs.length + 1) (cs ++ [.slice none 0 0])) (hg : (w.alloc o).grownBy w1 v.ownBlock) :
    OwnRR w1 base v' (rs ++ [[]]) (cs ++ [.slice none 0 0]) := by
  have hl := h.len
  refine ⟨by rw [List.length_append]; exact ho, fun j r hr => ?_, fun j j' u u' hne hu hu' => ?_⟩
  · by_cases hj : j < rs.length
    · rw [List.getElem?_append_left hj] at hr
      obtain ⟨u, e, hou⟩ := h.2.1 j r hr
      refine ⟨u, by rw [List.getElem?_append_left (by omega)]; exact e, ?_⟩
      exact (World.ownsRow.alloc hou o).kept hg (apart_types (World.ownsRow.alloc hou o) (World.ownsRow.alloc h.1 o) (by decide))
    · rw [List.getElem?_append_right (by omega)] at hr
      have e0 : j - rs.length = 0 := by
        have := (List.getElem?_eq_some_iff.1 hr).1
        simp at this; omega
      rw [e0] at hr
      simp at hr
      subst hr
      refine ⟨.slice none 0 0, ?_, World.ownsRow_nil _ _ _ _⟩
      rw [List.getElem?_append_right (by omega), hl, e0]; rfl
  · by_cases hj : j < cs.length
    · rw [List.getElem?_append_left hj] at hu
      by_cases hj' : j' < cs.length
      · rw [List.getElem?_append_left hj'] at hu'
        exact h.2.2 j j' u u' hne hu hu'
      · rw [List.getElem?_append_right (by omega)] at hu'
        have e0 : j' - cs.length = 0 := by have := (List.getElem?_eq_some_iff.1 hu').1; simp at this; omega
        rw [e0] at hu'; simp at hu'; subst hu'
        exact Apart.symm (.inl rfl)
    · rw [List.getElem?_append_right (by omega)] at hu
      have e0 : j - cs.length = 0 := by have := (List.getElem?_eq_some_iff.1 hu).1; simp at this; omega
      rw [e0] at hu; simp at hu; subst hu
      exact .inl rfl
theorem own_heap {w : World} {base e : Nat} {R n cap : Nat} {cs : List Value} (h : w.ownsRow base e 1 (.slice (some ⟨R, 0, none⟩) n cap) n cs) : ∃ F m, w.rowIs R e m F ∧ n ≤ m ∧ base ≤ R ∧ ∀ j u, cs[j]? = some u → F j = u := by
  rcases h.2 with ⟨e0, _⟩ | ⟨g, cap', cur, ev, hb, hh, h1, h2, h3, h4⟩
  · cases e0
  · cases ev
    refine ⟨fun i => (cur[i]?).getD noS, cur.size, ⟨cur, hh, rfl, fun i hi => by simp [hi]⟩, by omega, hb, fun j u hu => ?_⟩
    rw [← h4, List.getElem?_take] at hu
    split at hu
    · have : cur[j]? = some u := by simpa using hu
      simp [this]
    · cases hu
theorem own_store {w : World} {base e : Nat} {R n cap i : Nat} {cs : List Value} {u : Value} (h : w.ownsRow base e 1 (.slice (some ⟨R, 0, none⟩) n cap) n cs) (hi : i < n) : (w.setCell ⟨R, i, none⟩ u).ownsRow base e 1 (.slice (some ⟨R, 0, none⟩) n cap) n (cs.set i u) := by
  refine ⟨by rw [List.length_set]; exact h.1, ?_⟩
  rcases h.2 with ⟨e0, _⟩ | ⟨g, cap', cur, ev, hb, hh, h1, h2, h3, h4⟩
  · cases e0
  · cases ev
    refine .inr ⟨R, cap, cur.setIfInBounds i u, rfl, hb, ?_, h1, h2, by simpa using h3, ?_⟩
    · simp [World.setCell, Array.getElem?_modify, hh]
    · rw [← h4]
      simp [List.take_set]
/-- rows[i] = append(rows[i], x). -/
theorem OwnRR.put {w w1 : World} {base R n cap : Nat} {rs : List (List Val)} {cs : List Value} {o : Obj} {i : Nat} {u u' : Value} {r : List Val} (h : OwnRR w base (.slice (some ⟨R, 0, none⟩) n cap) rs cs) (hn : rs.length = n) (hu : cs[i]? = some u)
    (ho : OwnV w1 base u' r) (hg : (w.alloc o).grownBy w1 u.ownBlock) (hat : u.ownBlock = u'.ownBlock ∨ u'.ownBlock = some (w.alloc o).heap.size) :
    OwnRR (w1.setCell ⟨R, i, none⟩ u') base (.slice (some ⟨R, 0, none⟩) n cap) (rs.set i r) (cs.set i u') := by
  subst hn
  have hl := h.len
  have hi : i < rs.length := by rw [← hl]; exact (List.getElem?_eq_some_iff.1 hu).1
  obtain ⟨ri, _, hou⟩ := h.at hu
  have hv1 := (World.ownsRow.alloc h.1 o).kept hg (apart_types (World.ownsRow.alloc h.1 o) (World.ownsRow.alloc hou o) (by decide))
  obtain ⟨F, m, hrow, _, _, _⟩ := own_heap hv1
  refine ⟨by rw [List.length_set]; exact own_store hv1 hi, fun j q hq => ?_, fun j j' x x' hne hx hx' => ?_⟩
  · by_cases ej : j = i
    · subst ej
      rw [List.getElem?_set_self hi] at hq
      cases hq
      exact ⟨u', by rw [List.getElem?_set_self (by omega)], own_set ho hrow (by decide)⟩
    · rw [List.getElem?_set_ne (fun e => ej e.symm)] at hq
      obtain ⟨x, ex, hox⟩ := h.2.1 j q hq
      refine ⟨x, by rw [List.getElem?_set_ne (fun e => ej e.symm)]; exact ex, own_set ?_ hrow (by decide)⟩
      exact (World.ownsRow.alloc hox o).kept hg (h.2.2 j i x u ej ex hu)
  · have new : ∀ (j : Nat) (x : Value), j ≠ i → cs[j]? = some x → Apart x u' := by
      intro j x ej hx
      rcases hat with e | e
      · have := h.2.2 j i x u ej hx hu
        rcases this with h0 | h0
        · exact .inl h0
        · exact .inr (by rw [← e]; exact h0)
      · obtain ⟨q, _, hox⟩ := h.at hx
        cases hb : x.ownBlock with
        | none => exact .inl hb
        | some g =>
          right
          have := (World.ownsRow.lt hox g hb).2
          rw [hb, e]; intro e2; cases e2; simp at this; omega
    by_cases ej : j = i
    · by_cases ej' : j' = i
      · exact absurd (ej.trans ej'.symm) hne
      · subst ej
        rw [List.getElem?_set_self (by omega)] at hx; cases hx
        rw [List.getElem?_set_ne (fun e => ej' e.symm)] at hx'
        exact (new j' x' ej' hx').symm
    · rw [List.getElem?_set_ne (fun e => ej e.symm)] at hx
      by_cases ej' : j' = i
      · subst ej'
        rw [List.getElem?_set_self (by omega)] at hx'; cases hx'
        exact new j x ej hx
      · rw [List.getElem?_set_ne (fun e => ej' e.symm)] at hx'
        exact h.2.2 j j' x x' hne hx hx'

/-- The rows when k columns are laid, and of the next one the first i values. -/
def rsA (Cs : List (Vc × Sl)) (n0 k i : Nat) : List (List Val) := (List.range (if k = 0 then i else n0)).map (fun j => (rowOf Cs j).take (if j < i then k + 1 else k))
def rsB (Cs : List (Vc × Sl)) (n0 k i : Nat) : List (List Val) := if k = 0 then rsA Cs n0 0 i ++ [[]] else rsA Cs n0 k i
theorem rsA_next (Cs : List (Vc × Sl)) (n0 k : Nat) : rsA Cs n0 k n0 = rsA Cs n0 (k + 1) 0 := by
  unfold rsA
  have e : (if k = 0 then n0 else n0) = n0 := by split <;> rfl
  rw [e]
  refine List.map_congr_left fun j hj => ?_
  have := List.mem_range.1 hj
  rw [if_pos this, if_neg (by omega)]
theorem rsB_at {Cs : List (Vc × Sl)} {n0 k i : Nat} (hi : i < n0) : (rsB Cs n0 k i)[i]? = some ((rowOf Cs i).take k) := by
  unfold rsB
  split
  · next h => subst h; rw [List.getElem?_append_right (by simp [rsA])]; simp [rsA]
  · next h => simp [rsA, h, hi]
theorem rsB_set {Cs : List (Vc × Sl)} {n0 k i : Nat} (hi : i < n0) : (rsB Cs n0 k i).set i ((rowOf Cs i).take (k + 1)) = rsA Cs n0 k (i + 1) := by
  apply List.ext_getElem?
  intro j
  unfold rsB
  split
  · next h =>
    subst h
    by_cases ej : j = i
    · subst ej
      rw [List.getElem?_set_self (by simp [rsA])]
      simp [rsA]
    · rw [List.getElem?_set_ne (fun e => ej e.symm)]
      by_cases hj : j < i
      · rw [List.getElem?_append_left (by simp [rsA]; exact hj)]
        simp [rsA, hj, show j < i + 1 by omega]
      · rw [List.getElem?_eq_none (by simp [rsA]; omega), List.getElem?_eq_none (by simp [rsA]; omega)]
  · next h =>
    by_cases ej : j = i
    · subst ej
      rw [List.getElem?_set_self (by simp [rsA, h]; exact hi)]
      simp [rsA, h, hi]
    · rw [List.getElem?_set_ne (fun e => ej e.symm)]
      by_cases hj : j < n0
      · by_cases hji : j < i
        · simp [rsA, h, hj, hji, show j < i + 1 by omega]
        · simp [rsA, h, hj, hji, show ¬ j < i + 1 by omega]
      · rw [List.getElem?_eq_none (by simp [rsA, h]; omega), List.getElem?_eq_none (by simp [rsA, h]; omega)]
theorem rsA_all (Cs : List (Vc × Sl)) : rsA Cs (len0 Cs) Cs.length 0 = rowsOf Cs := by
  unfold rsA rowsOf
  by_cases h : Cs.length = 0
  · have : Cs = [] := List.eq_nil_of_length_eq_zero h
    subst this
    rfl
  · rw [if_neg h]
    refine List.map_congr_left fun j _ => ?_
    rw [if_neg (by omega), List.take_of_length_le (by rw [rowOf_len]; exact Nat.le_refl _)]
theorem rsB_len {Cs : List (Vc × Sl)} {n0 k i : Nat} (hi : i < n0) : (rsB Cs n0 k i).length = if k = 0 then i + 1 else n0 := by
  unfold rsB
  split
  · next h => simp [rsA]
  · next h => simp [rsA, h]
end Go.Proofs.Ytifohbapfciniab
