import Derived.Test.YtmjeiepljlepbacGreatVecM
import Derived.Deep.RegionLaw
set_option linter.unusedSimpArgs false
set_option linter.unusedVariables false
set_option maxRecDepth 100000
namespace Go.Proofs.YtmjeiepljlepbacGreat.Vv
open Go.RowKit Go.Sort
/-- A slice of rows, as it lies in memory. -/
def RowsAt (w : World) (a : Option Addr) (rs : List (List Val)) : Prop :=
  rs = [] ∨ ∃ b off, a = some ⟨b, off, none⟩ ∧ ∀ i r, rs[i]? = some r → ∃ ra rc, w.cell? ⟨b, off + i, none⟩ = some (.slice ra r.length rc) ∧ RowAt w ra r
theorem RowsAt.later {w w' : World} {a : Option Addr} {rs : List (List Val)} (h : RowsAt w a rs) (hb : Below w.heap.size w w') : RowsAt w' a rs := by
  rcases h with h | ⟨b, off, ha, h⟩
  · exact .inl h
  · exact .inr ⟨b, off, ha, fun i r hr => by obtain ⟨ra, rc, h1, h2⟩ := h i r hr; exact ⟨ra, rc, cell_later hb h1, h2.later hb⟩⟩

/-- A slice of columns, as it lies in memory. -/
def ColAt (w : World) (b o : Nat) (X : Vc) (p : Sl) : Prop :=
  w.cell? ⟨b, o, none⟩ = some (.int .i64 X.k) ∧ w.cell? ⟨b, o + 1, none⟩ = some (.slice p.a1 X.nl.length p.c1) ∧ w.cell? ⟨b, o + 2, none⟩ = some (.slice p.a2 X.ns.length p.c2) ∧ w.cell? ⟨b, o + 3, none⟩ = some (.slice p.a3 X.ss.length p.c3)
def ColsAt (w : World) (a : Option Addr) (Cs : List (Vc × Sl)) : Prop :=
  (Cs = [] ∨ ∃ b off, a = some ⟨b, off, none⟩ ∧ ∀ i c, Cs[i]? = some c → ColAt w b (off + i * 4) c.1 c.2) ∧ ∀ c ∈ Cs, VecAt w c.1 c.2
theorem ColAt.later {w w' : World} {b o : Nat} {X : Vc} {p : Sl} (h : ColAt w b o X p) (hb : Below w.heap.size w w') : ColAt w' b o X p :=
  ⟨cell_later hb h.1, cell_later hb h.2.1, cell_later hb h.2.2.1, cell_later hb h.2.2.2⟩
theorem ColsAt.later {w w' : World} {a : Option Addr} {Cs : List (Vc × Sl)} (h : ColsAt w a Cs) (hb : Below w.heap.size w w') : ColsAt w' a Cs := by
  refine ⟨?_, fun c hc => (h.2 c hc).later hb⟩
  rcases h.1 with e | ⟨b, off, ha, h1⟩
  · exact .inl e
  · exact .inr ⟨b, off, ha, fun i c hc => (h1 i c hc).later hb⟩

def badC (n0 : Nat) (c : Vc × Sl) : Bool := !goodB c.1 || ((c.1.nl.length : Int) != (n0 : Int))
def len0 (Cs : List (Vc × Sl)) : Nat := match Cs with | [] => 0 | c :: _ => c.1.nl.length
def rowOf (Cs : List (Vc × Sl)) (i : Nat) : List Val := Cs.map (fun c => atV c.1 i)
def rowsOf (Cs : List (Vc × Sl)) : List (List Val) := (List.range (len0 Cs)).map (rowOf Cs)
def tabV (Cs : List (Vc × Sl)) : List (List Val) × Int := if Cs.any (badC (len0 Cs)) then ([], 1) else (rowsOf Cs, 0)
theorem rowsOf_at (Cs : List (Vc × Sl)) {i : Nat} (h : i < len0 Cs) : (rowsOf Cs)[i]? = some (rowOf Cs i) := by simp [rowsOf, h]
theorem rowOf_at {Cs : List (Vc × Sl)} {k i : Nat} {c : Vc × Sl} (h : Cs[k]? = some c) : (rowOf Cs i)[k]? = some (atV c.1 i) := by simp [rowOf, h]
theorem rowOf_len (Cs : List (Vc × Sl)) (i : Nat) : (rowOf Cs i).length = Cs.length := by simp [rowOf]
theorem len0_of {Cs : List (Vc × Sl)} {c : Vc × Sl} (h : Cs[0]? = some c) : len0 Cs = c.1.nl.length := by
  cases Cs with
  | nil => cases h
  | cons d l => simp at h; subst h; rfl

theorem Tryz.info22 : (Tryz.prog.info? 22).map (fun i => (i.zero, i.size, i.bytes)) = some (some (.slice none 0 0), 1, 24) := by kernel_rfl
def RowsV (w : World) (v : Value) (rs : List (List Val)) : Prop := ∃ ra rc, v = .slice ra rs.length rc ∧ RowsAt w ra rs
theorem uS {w' : World} {R n0 i bx : Nat} {F : Nat → Value} {v : Value} {X : Vc} {p : Sl} (h1 : w'.rowIs R 22 n0 F) (hi : i < n0) (hF : F i = v)
    (h2 : w'.rowIs bx 29 4 (box4 (.int .i64 X.k) (.slice p.a1 X.nl.length p.c1) (.slice p.a2 X.ns.length p.c2) (.slice p.a3 X.ss.length p.c3))) :
    w'.cell? ⟨R, i, none⟩ = some v ∧ w'.cell? ⟨bx, 0, none⟩ = some (.int .i64 X.k) ∧ w'.cell? ⟨bx, 1, none⟩ = some (.slice p.a1 X.nl.length p.c1) ∧ w'.cell? ⟨bx, 2, none⟩ = some (.slice p.a2 X.ns.length p.c2) ∧ w'.cell? ⟨bx, 3, none⟩ = some (.slice p.a3 X.ss.length p.c3) := by
  obtain ⟨t0, t1, t2, t3, _⟩ := box_facts h2
  exact ⟨by rw [h1.cell hi, hF], t0, t1, t2, t3⟩

end Go.Proofs.YtmjeiepljlepbacGreat.Vv
set_option linter.unusedSimpArgs false
set_option maxRecDepth 100000
set_option linter.unusedVariables false
namespace Go.Proofs.YtmjeiepljlepbacGreat.Vv
open Go.RowKit Go.Sort

/-- Two slices of the call's own don't share their rows. -/
def Apart (u v : Value) : Prop := u.ownBlock = none ∨ u.ownBlock ≠ v.ownBlock
theorem Apart.symm {u v : Value} (h : Apart u v) : Apart v u := by
  unfold Apart at *
  cases hv : v.ownBlock with
  | none => exact .inl rfl
  | some g => right; intro e; rcases h with h | h
              · rw [h] at e; cases e
              · exact h (by rw [hv, e])
theorem apart_types {w : World} {base e size base' e' size' : Nat} {v v' : Value} {m m' : Nat} {xs xs' : List Value} (h : w.ownsRow base e size v m xs) (h' : w.ownsRow base' e' size' v' m' xs') (hne : e ≠ e') : Apart v v' := own_own h h' hne
/-- A list of rows of the call's own. -/
def OwnRR (w : World) (base : Nat) (v : Value) (rs : List (List Val)) (cs : List Value) : Prop :=
  w.ownsRow base 22 1 v rs.length cs ∧ (∀ (j : Nat) r, rs[j]? = some r → ∃ u, cs[j]? = some u ∧ OwnV w base u r) ∧ (∀ (j j' : Nat) u u', j ≠ j' → cs[j]? = some u → cs[j']? = some u' → Apart u u')
theorem OwnRR.nil (w : World) (base : Nat) : OwnRR w base (.slice none 0 0) [] [] := ⟨World.ownsRow_nil _ _ _ _, by simp, by simp⟩
theorem OwnRR.later {w w' : World} {base : Nat} {v : Value} {rs : List (List Val)} {cs : List Value} (h : OwnRR w base v rs cs) (hb : Below w.heap.size w w') : OwnRR w' base v rs cs :=
  ⟨own_later h.1 hb, fun j r hr => by obtain ⟨u, e, ho⟩ := h.2.1 j r hr; exact ⟨u, e, ho.later hb⟩, h.2.2⟩
theorem OwnRR.len {w : World} {base : Nat} {v : Value} {rs : List (List Val)} {cs : List Value} (h : OwnRR w base v rs cs) : cs.length = rs.length := by have := h.1.1; omega
theorem OwnRR.at {w : World} {base : Nat} {v : Value} {rs : List (List Val)} {cs : List Value} (h : OwnRR w base v rs cs) {j : Nat} {u : Value} (hu : cs[j]? = some u) : ∃ r, rs[j]? = some r ∧ OwnV w base u r := by
  have hj : j < rs.length := by rw [← h.len]; exact (List.getElem?_eq_some_iff.1 hu).1
  obtain ⟨u', e, ho⟩ := h.2.1 j _ (List.getElem?_eq_getElem hj)
  rw [hu] at e; cases e
  exact ⟨_, List.getElem?_eq_getElem hj, ho⟩
/-- append(rows, nil). -/
theorem OwnRR.push {w w1 : World} {base : Nat} {v v' : Value} {rs : List (List Val)} {cs : List Value} {o : Obj} (h : OwnRR w base v rs cs) (ho : w1.ownsRow base 22 1 v' (rs.length + 1) (cs ++ [.slice none 0 0])) (hg : (w.alloc o).grownBy w1 v.ownBlock) :
    OwnRR w1 base v' (rs ++ [[]]) (cs ++ [.slice none 0 0]) := by
  have hl := h.len
  refine ⟨by rw [List.length_append]; exact ho, fun j r hr => ?_, fun j j' u u' hne hu hu' => ?_⟩
  · by_cases hj : j < rs.length
    · rw [List.getElem?_append_left hj] at hr
      obtain ⟨u, e, hou⟩ := h.2.1 j r hr
      refine ⟨u, by rw [List.getElem?_append_left (by omega)]; exact e, ?_⟩
      exact (World.ownsRow.alloc hou o).kept hg (apart_types (World.ownsRow.alloc hou o) (World.ownsRow.alloc h.1 o) (by decide))
    · rw [List.getElem?_append_right (by omega)] at hr
      have e0 : j - rs.length = 0 := by
        have := (List.getElem?_eq_some_iff.1 hr).1
        simp at this; omega
      rw [e0] at hr
      simp at hr
      subst hr
      refine ⟨.slice none 0 0, ?_, World.ownsRow_nil _ _ _ _⟩
      rw [List.getElem?_append_right (by omega), hl, e0]; rfl
  · by_cases hj : j < cs.length
    · rw [List.getElem?_append_left hj] at hu
      by_cases hj' : j' < cs.length
      · rw [List.getElem?_append_left hj'] at hu'
        exact h.2.2 j j' u u' hne hu hu'
      · rw [List.getElem?_append_right (by omega)] at hu'
        have e0 : j' - cs.length = 0 := by have := (List.getElem?_eq_some_iff.1 hu').1; simp at this; omega
        rw [e0] at hu'; simp at hu'; subst hu'
        exact Apart.symm (.inl rfl)
    · rw [List.getElem?_append_right (by omega)] at hu
      have e0 : j - cs.length = 0 := by have := (List.getElem?_eq_some_iff.1 hu).1; simp at this; omega
      rw [e0] at hu; simp at hu; subst hu
      exact .inl rfl
theorem own_heap {w : World} {base e : Nat} {R n cap : Nat} {cs : List Value} (h : w.ownsRow base e 1 (.slice (some ⟨R, 0, none⟩) n cap) n cs) : ∃ F m, w.rowIs R e m F ∧ n ≤ m ∧ base ≤ R ∧ ∀ j u, cs[j]? = some u → F j = u := by
  rcases h.2 with ⟨e0, _⟩ | ⟨g, cap', cur, ev, hb, hh, h1, h2, h3, h4⟩
  · cases e0
  · cases ev
    refine ⟨fun i => (cur[i]?).getD noS, cur.size, ⟨cur, hh, rfl, fun i hi => by simp [hi]⟩, by omega, hb, fun j u hu => ?_⟩
    rw [← h4, List.getElem?_take] at hu
    split at hu
    · have : cur[j]? = some u := by simpa using hu
      simp [this]
    · cases hu
theorem own_store {w : World} {base e : Nat} {R n cap i : Nat} {cs : List Value} {u : Value} (h : w.ownsRow base e 1 (.slice (some ⟨R, 0, none⟩) n cap) n cs) (hi : i < n) : (w.setCell ⟨R, i, none⟩ u).ownsRow base e 1 (.slice (some ⟨R, 0, none⟩) n cap) n (cs.set i u) := by
  refine ⟨by rw [List.length_set]; exact h.1, ?_⟩
  rcases h.2 with ⟨e0, _⟩ | ⟨g, cap', cur, ev, hb, hh, h1, h2, h3, h4⟩
  · cases e0
  · cases ev
    refine .inr ⟨R, cap, cur.setIfInBounds i u, rfl, hb, ?_, h1, h2, by simpa using h3, ?_⟩
    · simp [World.setCell, Array.getElem?_modify, hh]
    · rw [← h4]
      simp [List.take_set]
/-- rows[i] = append(rows[i], x). -/
theorem OwnRR.put {w w1 : World} {base R n cap : Nat} {rs : List (List Val)} {cs : List Value} {o : Obj} {i : Nat} {u u' : Value} {r : List Val} (h : OwnRR w base (.slice (some ⟨R, 0, none⟩) n cap) rs cs) (hn : rs.length = n) (hu : cs[i]? = some u)
    (ho : OwnV w1 base u' r) (hg : (w.alloc o).grownBy w1 u.ownBlock) (hat : u.ownBlock = u'.ownBlock ∨ u'.ownBlock = some (w.alloc o).heap.size) :
    OwnRR (w1.setCell ⟨R, i, none⟩ u') base (.slice (some ⟨R, 0, none⟩) n cap) (rs.set i r) (cs.set i u') := by
  subst hn
  have hl := h.len
  have hi : i < rs.length := by rw [← hl]; exact (List.getElem?_eq_some_iff.1 hu).1
  obtain ⟨ri, _, hou⟩ := h.at hu
  have hv1 := (World.ownsRow.alloc h.1 o).kept hg (apart_types (World.ownsRow.alloc h.1 o) (World.ownsRow.alloc hou o) (by decide))
  obtain ⟨F, m, hrow, _, _, _⟩ := own_heap hv1
  refine ⟨by rw [List.length_set]; exact own_store hv1 hi, fun j q hq => ?_, fun j j' x x' hne hx hx' => ?_⟩
  · by_cases ej : j = i
    · subst ej
      rw [List.getElem?_set_self hi] at hq
      cases hq
      exact ⟨u', by rw [List.getElem?_set_self (by omega)], own_set ho hrow (by decide)⟩
    · rw [List.getElem?_set_ne (fun e => ej e.symm)] at hq
      obtain ⟨x, ex, hox⟩ := h.2.1 j q hq
      refine ⟨x, by rw [List.getElem?_set_ne (fun e => ej e.symm)]; exact ex, own_set ?_ hrow (by decide)⟩
      exact (World.ownsRow.alloc hox o).kept hg (h.2.2 j i x u ej ex hu)
  · have new : ∀ (j : Nat) (x : Value), j ≠ i → cs[j]? = some x → Apart x u' := by
      intro j x ej hx
      rcases hat with e | e
      · have := h.2.2 j i x u ej hx hu
        rcases this with h0 | h0
        · exact .inl h0
        · exact .inr (by rw [← e]; exact h0)
      · obtain ⟨q, _, hox⟩ := h.at hx
        cases hb : x.ownBlock with
        | none => exact .inl hb
        | some g =>
          right
          have := (World.ownsRow.lt hox g hb).2
          rw [hb, e]; intro e2; cases e2; simp at this; omega
    by_cases ej : j = i
    · by_cases ej' : j' = i
      · exact absurd (ej.trans ej'.symm) hne
      · subst ej
        rw [List.getElem?_set_self (by omega)] at hx; cases hx
        rw [List.getElem?_set_ne (fun e => ej' e.symm)] at hx'
        exact (new j' x' ej' hx').symm
    · rw [List.getElem?_set_ne (fun e => ej e.symm)] at hx
      by_cases ej' : j' = i
      · subst ej'
        rw [List.getElem?_set_self (by omega)] at hx'; cases hx'
        exact new j x ej hx
      · rw [List.getElem?_set_ne (fun e => ej' e.symm)] at hx'
        exact h.2.2 j j' x x' hne hx hx'

/-- The rows when k columns are laid, and of the next one the first i values. -/
def rsA (Cs : List (Vc × Sl)) (n0 k i : Nat) : List (List Val) := (List.range (if k = 0 then i else n0)).map (fun j => (rowOf Cs j).take (if j < i then k + 1 else k))
def rsB (Cs : List (Vc × Sl)) (n0 k i : Nat) : List (List Val) := if k = 0 then rsA Cs n0 0 i ++ [[]] else rsA Cs n0 k i
theorem rsA_next (Cs : List (Vc × Sl)) (n0 k : Nat) : rsA Cs n0 k n0 = rsA Cs n0 (k + 1) 0 := by
  unfold rsA
  have e : (if k = 0 then n0 else n0) = n0 := by split <;> rfl
  rw [e]
  refine List.map_congr_left fun j hj => ?_
  have := List.mem_range.1 hj
  rw [if_pos this, if_neg (by omega)]
theorem rsB_at {Cs : List (Vc × Sl)} {n0 k i : Nat} (hi : i < n0) : (rsB Cs n0 k i)[i]? = some ((rowOf Cs i).take k) := by
  unfold rsB
  split
  · next h => subst h; rw [List.getElem?_append_right (by simp [rsA])]; simp [rsA]
  · next h => simp [rsA, h, hi]
theorem rsB_set {Cs : List (Vc × Sl)} {n0 k i : Nat} (hi : i < n0) : (rsB Cs n0 k i).set i ((rowOf Cs i).take (k + 1)) = rsA Cs n0 k (i + 1) := by
  apply List.ext_getElem?
  intro j
  unfold rsB
  split
  · next h =>
    subst h
    by_cases ej : j = i
    · subst ej
      rw [List.getElem?_set_self (by simp [rsA])]
      simp [rsA]
    · rw [List.getElem?_set_ne (fun e => ej e.symm)]
      by_cases hj : j < i
      · rw [List.getElem?_append_left (by simp [rsA]; exact hj)]
        simp [rsA, hj, show j < i + 1 by omega]
      · rw [List.getElem?_eq_none (by simp [rsA]; omega), List.getElem?_eq_none (by simp [rsA]; omega)]
  · next h =>
    by_cases ej : j = i
    · subst ej
      rw [List.getElem?_set_self (by simp [rsA, h]; exact hi)]
      simp [rsA, h, hi]
    · rw [List.getElem?_set_ne (fun e => ej e.symm)]
      by_cases hj : j < n0
      · by_cases hji : j < i
        · simp [rsA, h, hj, hji, show j < i + 1 by omega]
        · simp [rsA, h, hj, hji, show ¬ j < i + 1 by omega]
      · rw [List.getElem?_eq_none (by simp [rsA, h]; omega), List.getElem?_eq_none (by simp [rsA, h]; omega)]
theorem rsA_all (Cs : List (Vc × Sl)) : rsA Cs (len0 Cs) Cs.length 0 = rowsOf Cs := by
  unfold rsA rowsOf
  by_cases h : Cs.length = 0
  · have : Cs = [] := List.eq_nil_of_length_eq_zero h
    subst this
    rfl
  · rw [if_neg h]
    refine List.map_congr_left fun j _ => ?_
    rw [if_neg (by omega), List.take_of_length_le (by rw [rowOf_len]; exact Nat.le_refl _)]
theorem rsB_len {Cs : List (Vc × Sl)} {n0 k i : Nat} (hi : i < n0) : (rsB Cs n0 k i).length = if k = 0 then i + 1 else n0 := by
  unfold rsB
  split
  · next h => simp [rsA]
  · next h => simp [rsA, h]
end Go.Proofs.YtmjeiepljlepbacGreat.Vv
set_option linter.unusedSimpArgs false
set_option maxRecDepth 100000
set_option linter.unusedVariables false
namespace Go.Proofs.YtmjeiepljlepbacGreat.Vv
open Go.RowKit Go.Sort

theorem grown_drew {W w1 : World} {r : Option Nat} (h : W.drew.grownBy w1 r) : W.grownBy w1 r := ⟨h.os, h.tape, h.output, h.size, h.block⟩
theorem vS {w' : World} {bx : Nat} {y : Val} (h : w'.rowIs bx 38 3 (box3 y)) : w'.cell? ⟨bx, 0, none⟩ = some (.int .i64 y.k) ∧ w'.cell? ⟨bx, 1, none⟩ = some (.int .i64 y.n) ∧ w'.cell? ⟨bx, 2, none⟩ = some (.string y.s) := by
  obtain ⟨a, b, c, _⟩ := box3_facts h
  exact ⟨a, b, c⟩
theorem own_some {w : World} {base e : Nat} {v : Value} {n : Nat} {cs : List Value} (h : w.ownsRow base e 1 v n cs) (hn : 0 < n) : ∃ R cap, v = .slice (some ⟨R, 0, none⟩) n cap := by
  rcases h.2 with ⟨_, h0⟩ | ⟨g, cap, cur, e, _⟩
  · omega
  · exact ⟨g, cap, e⟩
theorem apart_fresh {w : World} {base : Nat} {v u : Value} {zs : List Val} (h : OwnV w base v zs) (hu : ∀ g, u.ownBlock = some g → w.heap.size ≤ g) : Apart v u := by
  cases hv : v.ownBlock with
  | none => exact .inl hv
  | some g => right; rw [hv]; intro e; have h1 := (World.ownsRow.lt h g hv).2; have h2 := hu g e.symm; omega
theorem rows_of_own {w : World} {base : Nat} {v : Value} {rs : List (List Val)} {cs : List Value} (h : OwnRR w base v rs cs) : RowsV w v rs := by
  obtain ⟨a, c, e, hl, _⟩ := lis_of_own h.1
  refine ⟨a, c, e, ?_⟩
  rcases hl with h0 | ⟨b, off, ha, hc⟩
  · left
    have := h.len
    rw [h0] at this
    exact List.eq_nil_of_length_eq_zero this.symm
  · right
    refine ⟨b, off, ha, fun i r hr => ?_⟩
    obtain ⟨u, hu, hou⟩ := h.2.1 i r hr
    obtain ⟨ra, rc, e2, hrow⟩ := ownV_row hou
    exact ⟨ra, rc, by rw [hc i u hu, e2], hrow⟩
theorem own_nb {u : Value} {bx : Nat} (h : ∀ g, u.ownBlock = some g → g ≠ bx) : some bx ≠ u.ownBlock := fun e => h bx e.symm rfl
/-- Behind 'rows[i] = append(rows[i], x)'. -/
theorem across_put {w0 Wt w1 : World} {R n cap : Nat} {Cs : List (Vc × Sl)} {n0 k i : Nat} {cs : List Value} {o : Obj} {u : Value} {g cp m : Nat} {y : Val} {vv : Value} {bv : Nat} {ys : List Val}
    (hRR : OwnRR Wt w0.heap.size (.slice (some ⟨R, 0, none⟩) n cap) (rsB Cs n0 k i) cs) (hn : (rsB Cs n0 k i).length = n) (hi : i < n0) (hu : cs[i]? = some u) (hy : (rowOf Cs i)[k]? = some y)
    (ho : OwnV w1 w0.heap.size (.slice (some ⟨g, 0, none⟩) m cp) ((rowOf Cs i).take k ++ [y])) (hg : (Wt.alloc o).grownBy w1 u.ownBlock) (hat : u.ownBlock = some g ∨ g = Wt.heap.size + 1)
    (hvv : OwnV Wt bv vv ys) (hap : ∀ (j : Nat) x, cs[j]? = some x → Apart vv x) (hb : Below w0.heap.size w0 Wt) :
    OwnRR (w1.setCell ⟨R, i, none⟩ (.slice (some ⟨g, 0, none⟩) m cp)) w0.heap.size (.slice (some ⟨R, 0, none⟩) n cap) (rsA Cs n0 k (i + 1)) (cs.set i (.slice (some ⟨g, 0, none⟩) m cp)) ∧
    OwnV (w1.setCell ⟨R, i, none⟩ (.slice (some ⟨g, 0, none⟩) m cp)) bv vv ys ∧ (∀ (j : Nat) x, (cs.set i (.slice (some ⟨g, 0, none⟩) m cp))[j]? = some x → Apart vv x) ∧ Below w0.heap.size w0 (w1.setCell ⟨R, i, none⟩ (.slice (some ⟨g, 0, none⟩) m cp)) := by
  have hlt : i < cs.length := (List.getElem?_eq_some_iff.1 hu).1
  obtain ⟨ri, _, hou⟩ := hRR.at hu
  have hv1 := (World.ownsRow.alloc hRR.1 o).kept hg (apart_types (World.ownsRow.alloc hRR.1 o) (World.ownsRow.alloc hou o) (by decide))
  rw [hn] at hv1
  obtain ⟨F, mm, hrow, _, hbR, _⟩ := own_heap hv1
  refine ⟨?_, ?_, ?_, ?_⟩
  · have := hRR.put hn hu ho hg (by rcases hat with e | e; exact .inl e; exact .inr (by rw [e]; simp [Value.ownBlock]))
    rw [← take_one hy, rsB_set hi] at this
    exact this
  · exact own_set ((World.ownsRow.alloc hvv o).kept hg (hap i u hu)) hrow (by decide)
  · intro j x hx
    by_cases ej : j = i
    · subst ej
      rw [List.getElem?_set_self hlt] at hx
      cases hx
      rcases hat with e | e
      · have := hap j u hu
        unfold Apart at *
        rw [e] at this
        exact this
      · exact apart_fresh hvv (fun g' e' => by simp [Value.ownBlock] at e'; omega)
    · rw [List.getElem?_set_ne (fun e => ej e.symm)] at hx
      exact hap j x hx
  · exact ((below_alloc hb o).trans (grown_below hg (below_alloc hb o).size fun g e => (World.ownsRow.lt hou g e).1)).setCell hbR _

set_option maxHeartbeats 16000000 in
set_option maxRecDepth 100000 in
theorem across_any (a : Option Addr) (c : Nat) (Cs : List (Vc × Sl)) (w : World) (hl : Cs.length ≤ 2199023255552) (hln : ∀ c ∈ Cs, c.1.nl.length ≤ 4398046511104) (hs : ∀ c ∈ Cs, small c.1) (ha : ColsAt w a Cs) :
    Calls Tryz.prog 87 #[.slice a Cs.length c] w fun e w' => ∃ v, e = .returned (.tuple #[v, .int .i64 (tabV Cs).2]) ∧ RowsV w' v (tabV Cs).1 ∧ Below w.heap.size w w' := by
  obtain ⟨i40, hi40, z40, z41, z42⟩ := info_parts Tryz.info38
  obtain ⟨i22, hi22, y40, y41, y42⟩ := info_parts Tryz.info22
  have HG : Hid (∀ c ∈ Cs, ∀ w', Below w.heap.size w w' → Calls Tryz.prog 86 #[vecV c.1 c.2] w' fun e w'' => e = .returned (.bool (goodB c.1)) ∧ Below w'.heap.size w' w'') := fun c hc w' hb => rgood_any c.1 c.2 w' (hs c hc) ((ha.2 c hc).later hb)
  have HT : Hid (∀ c ∈ Cs, ∀ w', Below w.heap.size w w' → Calls Tryz.prog 129 #[vecV c.1 c.2] w' fun e w'' => ∃ v, e = .returned v ∧ OwnV w'' w'.heap.size v (valsV c.1) ∧ Below w'.heap.size w' w'') := fun c hc w' hb => rvalues_any c.1 c.2 w' (hln c hc) (hs c hc) ((ha.2 c hc).later hb)
  have HA := hide ha
  have HS := hide hs
  have hN0 : len0 Cs ≤ 4398046511104 := by
    cases Cs with
    | nil => simp [len0]
    | cons d l => exact hln d (by simp)
  generalize hR : tabV Cs = R
  have HR := hide hR
  obtain ⟨n0, hn0⟩ : ∃ n0, n0 = len0 Cs := ⟨_, rfl⟩
  have HN0 := hide hn0
  rw [← hn0] at hN0
  clear ha hs hR hn0
  go_enter Tryz.func87, Tryz.ntmps87
  go_wp2_with fail
  go_loopw [4, 11] (fun v i wr => ∃ (k : Nat) (cs : List Value), k ≤ Cs.length ∧ i = .int .i64 k ∧ Hid (∀ i y, i < k → Cs[i]? = some y → badC (len0 Cs) y = false) ∧ OwnRR wr w.heap.size v (rsA Cs n0 k 0) cs ∧ Below w.heap.size w wr) (fun _ i _ => Cs.length - (intOf i).toNat)
  case atStart => exact ⟨0, [], Nat.zero_le _, rfl, fun i y h => by omega, OwnRR.nil _ _, Below.refl _ _⟩
  case round =>
    obtain ⟨k, cs, hk, rfl, HN, hO, hb⟩ := hrel
    have HO := hide hO
    clear hO
    by_cases h1 : k < Cs.length
    · obtain ⟨cc, hcc⟩ : ∃ cc, Cs[k]? = some cc := ⟨_, List.getElem?_eq_getElem h1⟩
      obtain ⟨d0, hd0⟩ : ∃ d0, Cs[0]? = some d0 := ⟨_, List.getElem?_eq_getElem (by omega)⟩
      rcases ((unhide HA).later hb).1 with e | ⟨ba, oa, rfl, hca⟩
      · rw [e] at hcc; cases hcc
      obtain ⟨e0, e1, e2, e3⟩ := hca k cc hcc
      obtain ⟨_, n1, _, _⟩ := hca 0 d0 hd0
      simp only [Nat.zero_mul, Nat.add_zero] at n1
      have HGC := hide (unhide HG cc (List.mem_of_getElem? hcc))
      have HTC := hide (unhide HT cc (List.mem_of_getElem? hcc))
      have HS1 := hide hcc
      have HY := hide (fun i => rowOf_at (i := i) hcc)
      obtain ⟨sm1, _, _⟩ := unhide HS cc (List.mem_of_getElem? hcc)
      obtain ⟨sm2, _, _⟩ := unhide HS d0 (List.mem_of_getElem? hd0)
      have HL0 := hide (len0_of hd0)
      have hnb := World.block_lt_of_cell? _ _ n1
      simp only at hnb
      have i1 : (k : Int) < (Cs.length : Int) := by omega
      have i0 : (0 : Int) < (Cs.length : Int) := by omega
      obtain ⟨X, p⟩ := cc
      obtain ⟨X0, p0⟩ := d0
      simp only at e0 e1 e2 e3 n1 HGC HTC HY sm1 sm2 HL0
      clear hca hcc hd0
      go_upto_region 5 with fail
      obtain ⟨W1, hW1⟩ : ∃ W1, W1 = wr.alloc (.cells #[.int .i64 X.k, .slice p.a1 X.nl.length p.c1, .slice p.a2 X.ns.length p.c2, .slice p.a3 X.ss.length p.c3] 29) := ⟨_, rfl⟩
      have hB1 : Below w.heap.size w W1 := by rw [hW1]; exact below_alloc hb _
      have hx1 : W1.rowIs wr.heap.size 29 4 (box4 (.int .i64 X.k) (.slice p.a1 X.nl.length p.c1) (.slice p.a2 X.ns.length p.c2) (.slice p.a3 X.ss.length p.c3)) := by rw [hW1]; exact box4_alloc _ _ _ _ _
      have n1' : W1.cell? ⟨ba, oa + 1, none⟩ = some (.slice p0.a1 X0.nl.length p0.c1) := by rw [hW1]; exact cell_later (below_alloc (Below.refl _ wr) _) n1
      have HO1 : Hid (OwnRR W1 w.heap.size u4 (rsA Cs n0 k 0) cs) := by rw [hW1]; exact (unhide HO).later (below_alloc (Below.refl _ wr) _)
      rw [← hW1]
      have HB1 := hide hB1
      have HX1 := hide hx1
      have HC : Hid (∀ d os, Calls Tryz.prog 86 #[vecV X p] (grow (redrawn W1 d) os) fun e w' => e = .returned (.bool (goodB X)) ∧ Below (grow (redrawn W1 d) os).heap.size (grow (redrawn W1 d) os) w') := fun d os => unhide HGC _ (below_step hB1 (below_regrown _ _ _))
      have HBC : Hid (∀ bb, bb = (!goodB X || ((X.nl.length : Int) != (X0.nl.length : Int))) → bb = badC (len0 Cs) (X, p)) := fun bb h => by rw [h, unhide HL0]; rfl
      have HGX : Hid (badC (len0 Cs) (X, p) = false → goodB X = true ∧ X.nl.length = n0) := fun h => by
        simp [badC] at h
        have := unhide HN0
        exact ⟨h.1, by omega⟩
      obtain ⟨G, hG⟩ : ∃ G, G = goodB X := ⟨_, rfl⟩
      rw [← hG] at HC HBC
      clear hW1 e0 e1 e2 e3 n1 hb hB1 HGC hG HO
      go_cut [29] (fun s29 wx => (∃ bb, s29 = .bool bb ∧ Hid (bb = badC (len0 Cs) (X, p))) ∧ Below W1.heap.size W1 wx)
      case first =>
        obtain ⟨t0, t1, t2, t3, _⟩ := box_facts hx1
        have k0 := cell_regrown t0
        have k1 := cell_regrown t1
        have k2 := cell_regrown t2
        have k3 := cell_regrown t3
        have k4 := cell_regrown n1'
        clear hx1
        cases G
        · refine wp_region_quiet_below (by kernel_rfl) (by kernel_rfl) ?_
          repeat (go_big_quiet_step ((go_at_call 86; exact Calls.regrown_of (unhide HC _ _))))
          refine wpQuiet_nil ?_
          intro w' hw'
          have hB : Below W1.heap.size W1 w' := by obtain ⟨p, rfl⟩ := hw'; exact below_regrown _ _ _
          clear hw'
          go_wp2
          go_meet
          exact ⟨⟨_, rfl, unhide HBC _ rfl⟩, hB⟩
        · refine wp_region_quiet_below (by kernel_rfl) (by kernel_rfl) ?_
          repeat (go_big_quiet_step ((go_at_call 86; exact Calls.regrown_of (unhide HC _ _))))
          refine wpQuiet_nil ?_
          intro w' hw'
          have hB : Below W1.heap.size W1 w' := by obtain ⟨p, rfl⟩ := hw'; exact below_regrown _ _ _
          clear hw'
          go_wp2
          go_meet
          exact ⟨⟨_, rfl, unhide HBC _ rfl⟩, hB⟩
      case rest =>
        obtain ⟨⟨bb, rfl, HBB⟩, hbx⟩ := hcut
        rename World => wx
        have hBx := below_step (unhide HB1) hbx
        cases bb
        rotate_left
        · have HE : Hid (R = ([], 1)) := by
            show _ = _
            rw [← unhide HR, tabV, if_pos (hitG (unhide HS1) (unhide HBB).symm)]
          go_wp2
          go_ret2
          exact ⟨_, by rw [unhide HE]; rfl, by rw [unhide HE]; exact ⟨none, 0, rfl, .inl rfl⟩, hBx⟩
        · have HP := hide (stepG (unhide HN) (unhide HS1) (unhide HBB).symm)
          obtain ⟨hgX, hnX⟩ := unhide HGX (unhide HBB).symm
          have HVL : Hid ((valsV X).length = n0) := by rw [vals_len hgX]; exact hnX
          have HVA : Hid (∀ i, i < n0 → (valsV X)[i]? = some (atV X i)) := fun i hi => vals_at hgX (by omega)
          have HXx := hide (rowIs_later (unhide HX1) hbx)
          have HOx := hide ((unhide HO1).later hbx)
          have HBX := hide hBx
          obtain ⟨t0, t1, t2, t3, _⟩ := box_facts (unhide HXx)
          generalize valsV X = ys at HTC HVL HVA
          clear hgX hnX HX1 HO1 hx1 n1' hbx hBx HC HBC HGX HN HB1 HBB
          go_wp2_with (go_at_call 129; refine (unhide HTC _ (unhide HBX)).mono ?_; rintro e w7 ⟨vv, rfl, ho7, hb7⟩; obtain ⟨a7, c7, e7⟩ := own_shape ho7; subst e7)
          have HB7 := hide (below_step (unhide HBX) hb7)
          have HO7 := hide ((unhide HOx).later hb7)
          have HV7 := hide ho7
          have HAP : Hid (∀ (j : Nat) x, cs[j]? = some x → Apart (.slice a7 ys.length c7) x) := fun j x hx => by
            obtain ⟨r, _, hor⟩ := (unhide HOx).at hx
            refine Apart.symm ?_
            exact apart_fresh hor (fun g e => (World.ownsRow.lt ho7 g e).1)
          clear t0 t1 t2 t3 hb7 ho7 HXx HOx HBX
          go_loopw [4, 33] (fun v q wr => ∃ (i : Nat) (cs : List Value), i ≤ n0 ∧ q = .int .i64 i ∧ OwnRR wr w.heap.size v (rsA Cs n0 k i) cs ∧ OwnV wr wx.heap.size (.slice a7 ys.length c7) ys ∧ (∀ (j : Nat) x, cs[j]? = some x → Apart (.slice a7 ys.length c7) x) ∧ Below w.heap.size w wr) (fun _ q _ => n0 - (intOf q).toNat)
          case atStart => exact ⟨0, cs, Nat.zero_le _, rfl, unhide HO7, unhide HV7, unhide HAP, unhide HB7⟩
          case round =>
            obtain ⟨i, cs, hi, rfl, hO, hV, hAp, hBr⟩ := hrel
            have HO := hide hO
            have HV := hide hV
            have HAp := hide hAp
            have HBr := hide hBr
            have i3 : (ys.length : Int) = (n0 : Int) := by rw [unhide HVL]
            have HI3 := hide i3
            clear i3 hO hAp HO7 HV7 HAP HB7
            by_cases h2 : i < n0
            · have i2 : (i : Int) < (ys.length : Int) := by rw [unhide HVL]; omega
              obtain ⟨a7', c7', e7', hrow⟩ := ownV_row hV
              cases e7'
              have hyy := unhide HVA i h2
              rcases hrow with e | ⟨bv, ov, e, hcv⟩
              · rw [e] at hyy; cases hyy
              subst e
              obtain ⟨m0, m1, m2⟩ := hcv i _ hyy
              have HYY := hide (unhide HY i)
              generalize atV X i = y at m0 m1 m2 HYY
              have hBsz := hBr.size
              clear hcv hyy hV hBr
              by_cases h0 : k = 0
              · have k0 : ((k : Int) == 0) = true := by simp [h0]
                have hcl2 : (rsA Cs n0 k i).length = i := by simp [rsA, h0]
                have HCL2 := hide hcl2
                have H0 := hide h0
                clear hcl2 h0
                go_upto_region 12 with (at_builtin; refine wpList_append_own_at _ rfl (.tmp 40) (.tmp 41) 46 rfl w.heap.size 22 i22 (.slice none 0 0) 1 24 Tryz.underlying46 hi22 y40 y41 y42 rfl (by decide) _ _ _ rfl (World.ownsRow.alloc (World.ownsRow.alloc (unhide HO).1 _) _) ⟨wr.heap.size + 1, 0, none⟩ 1 1 [.slice none 0 0] rfl rfl (by intro j u hj; match j, hj with | 0, hj => (simp at hj; subst hj; simp [Addr.add, go_sem])) (by intro u hu; simp at hu; subst hu; rfl) (by rw [unhide HCL2]; unfold maxLen; omega) (by rw [unhide HCL2]; omega) (by simp; omega) ?_; intro v1 wT hown1 hgrow1 _ hat1)
                obtain ⟨bx, hbx⟩ : ∃ bx, bx = wr.heap.size := ⟨_, rfl⟩
                obtain ⟨Wt, hWt⟩ : ∃ Wt, Wt = wT := ⟨_, rfl⟩
                have hgq : ((wr.alloc (.cells #[.int .i64 y.k, .int .i64 y.n, .string y.s] 38)).alloc (.cells #[.slice none 0 0] 22)).grownBy wT u4.ownBlock := hgrow1
                have hOa := (unhide HO).later (below_alloc (Below.refl _ wr) (.cells #[.int .i64 y.k, .int .i64 y.n, .string y.s] 38))
                have hxa := (box3_alloc wr y).alloc (.cells #[.slice none 0 0] 22)
                have hxT : Wt.rowIs bx 38 3 (box3 y) := by rw [hWt, hbx]; exact rowIs_grown hxa hgq (own_ne hxa (World.ownsRow.alloc hOa.1 (.cells #[.slice none 0 0] 22)) (by decide))
                have hRR : OwnRR Wt w.heap.size v1 (rsB Cs n0 k i) (cs ++ [.slice none 0 0]) := by
                  rw [hWt, rsB, if_pos (unhide H0)]
                  have := OwnRR.push hOa hown1 hgq
                  rw [unhide H0] at this
                  exact this
                have hva := (unhide HV).later (below_alloc (Below.refl _ wr) (.cells #[.int .i64 y.k, .int .i64 y.n, .string y.s] 38))
                have hvT : OwnV Wt wx.heap.size (.slice (some ⟨bv, ov, none⟩) ys.length c7) ys := by rw [hWt]; exact (World.ownsRow.alloc hva (.cells #[.slice none 0 0] 22)).kept hgq (apart_types (World.ownsRow.alloc hva (.cells #[.slice none 0 0] 22)) (World.ownsRow.alloc hOa.1 (.cells #[.slice none 0 0] 22)) (by decide))
                have hapT : ∀ (j : Nat) x, (cs ++ [.slice none 0 0])[j]? = some x → Apart (.slice (some ⟨bv, ov, none⟩) ys.length c7) x := by
                  intro j x hx
                  by_cases hj : j < cs.length
                  · rw [List.getElem?_append_left hj] at hx; exact unhide HAp j x hx
                  · rw [List.getElem?_append_right (by omega)] at hx
                    have e0 : j - cs.length = 0 := by have := (List.getElem?_eq_some_iff.1 hx).1; simp at this; omega
                    rw [e0] at hx; simp at hx; subst hx
                    exact Apart.symm (.inl rfl)
                have hBa := below_alloc (below_alloc (unhide HBr) (.cells #[.int .i64 y.k, .int .i64 y.n, .string y.s] 38)) (.cells #[.slice none 0 0] 22)
                have hBT : Below w.heap.size w Wt := by rw [hWt]; exact hBa.trans (grown_below hgq hBa.size fun g e => (World.ownsRow.lt (unhide HO).1 g e).1)
                have hubT : ∀ (j : Nat) u, (cs ++ [.slice none 0 0])[j]? = some u → u.ownBlock ≠ some bx := by
                  intro j u hu e
                  by_cases hj : j < cs.length
                  · rw [List.getElem?_append_left hj] at hu
                    obtain ⟨r, _, hor⟩ := (unhide HO).at hu
                    have := (World.ownsRow.lt hor bx e).2
                    rw [hbx] at this; omega
                  · rw [List.getElem?_append_right (by omega)] at hu
                    have e0 : j - cs.length = 0 := by have := (List.getElem?_eq_some_iff.1 hu).1; simp at this; omega
                    rw [e0] at hu; simp at hu; subst hu
                    cases e
                rw [← hWt, ← hbx]
                clear hWt m0 m1 m2 hown1 hgrow1 hat1 hgq hOa hxa hva hBa hbx
                obtain ⟨u, hu, hou⟩ := hRR.2.1 i _ (rsB_at h2)
                have hnn := rsB_len (Cs := Cs) (k := k) h2
                obtain ⟨RR, capR, eR⟩ := own_some hRR.1 (by rw [hnn]; split <;> omega)
                subst eR
                obtain ⟨F, mm, hrowR, hmm, hbR, hFc⟩ := own_heap hRR.1
                have hlen : ((rowOf Cs i).take k).length ≤ 2199023255552 := by rw [List.length_take, rowOf_len]; omega
                obtain ⟨nR, hnR⟩ : ∃ nR, nR = (rsB Cs n0 k i).length := ⟨_, rfl⟩
                rw [← hnR] at hRR hmm
                have HNR := hide hnR.symm
                have hin : i < nR := by rw [hnR, hnn]; split <;> omega
                rw [← hnR]
                clear hnR hnn
                have cR : Wt.cell? ⟨RR, i, none⟩ = some u := by rw [hrowR.cell (by omega), hFc i u hu]
                have HU := hide hu
                have HOU := hide hou
                have HRR := hide hRR
                have HRW := hide hrowR
                have HLN := hide hlen
                have hRlt : RR < Wt.heap.size := hrowR.lt
                have hne : RR ≠ bx := by
                  intro e
                  obtain ⟨c1, q1, _⟩ := hrowR
                  obtain ⟨c2, q2, _⟩ := hxT
                  rw [e, q2] at q1; simp at q1
                have iR : (i : Int) < (nR : Int) := by omega
                have hub : ∀ g, u.ownBlock = some g → g ≠ bx := by
                  intro g e1 e2
                  have := hubT i u hu
                  subst e2
                  exact this e1
                have HUB := hide hub
                have S0 := vS hxT.drew
                obtain ⟨zs, hzs⟩ : ∃ zs, zs = (rowOf Cs i).take k := ⟨_, rfl⟩
                rw [← hzs] at HOU HLN
                have HZS := hide hzs
                have hbase : w.heap.size ≤ Wt.heap.size := hBT.size
                clear hou hu hrowR hFc hlen hub hzs hRR
                obtain ⟨x0, x1, x2, _⟩ := box3_facts hxT
                have hxlt : bx < Wt.heap.size := hxT.lt
                clear S0
                go_region_law ((refine step_append_lies _ (by rfl) (.tmp 48) (.tmp 50) 22 (by rfl) w.heap.size 38 i40 (.agg #[.int .i64 0, .int .i64 0, .string ⟨#[]⟩]) 3 32 Tryz.underlying22 hi40 z40 z41 z42 (by rfl) (by decide) u zs.length (zs.flatMap c3) (by rfl) (World.ownsRow.drew (World.ownsRow.alloc (unhide HOU) _)) ⟨Wt.heap.size, 0, none⟩ 1 1 (c3 y) (by rfl) (by rfl) (cells3_new Wt y) (c3_one _) (by decide) (by have := unhide HLN; unfold maxLen; omega) (by have := unhide HLN; omega) (by simp; omega) (Wt.heap.size + 1) (by simp) ?_; intro g cap w1 hown1 hgrow1 hat1 hlt1; have hgr : (Wt.alloc (.cells #[.int .i64 y.k, .int .i64 y.n, .string y.s] 38)).grownBy w1 u.ownBlock := grown_drew hgrow1; have hR1 := rowIs_grown ((unhide HRW).alloc (.cells #[.int .i64 y.k, .int .i64 y.n, .string y.s] 38)) hgr (own_ne ((unhide HRW).alloc (.cells #[.int .i64 y.k, .int .i64 y.n, .string y.s] 38)) (World.ownsRow.alloc (unhide HOU) (.cells #[.int .i64 y.k, .int .i64 y.n, .string y.s] 38)) (by decide)); have cR1 := hR1.cell (i := i) (by omega); have fR1 := hR1.frozen i))
                all_goals
                  have hown2 := ownV_len (ownV_app hown1) (by rw [unhide HZS] : zs ++ [y] = (rowOf Cs i).take k ++ [y])
                  obtain ⟨q1, q2, q3, q4⟩ := across_put (unhide HRR) (unhide HNR) h2 (unhide HU) (unhide HYY) hown2 hgr hat1 hvT hapT hBT
                  go_wp2
                  go_roundw
                  case rel => exact ⟨i + 1, _, by omega, by go_num, q1, q2, q3, q4⟩
                  case measure => simp [intOf]; omega
              · -- columns behind the first
                have k0 : ((k : Int) == 0) = false := by simp; omega
                go_upto_region 12 with fail
                obtain ⟨bx, hbx⟩ : ∃ bx, bx = wr.heap.size := ⟨_, rfl⟩
                obtain ⟨Wt, hWt⟩ : ∃ Wt, Wt = wr.alloc (.cells #[.int .i64 y.k, .int .i64 y.n, .string y.s] 38) := ⟨_, rfl⟩
                have hxT : Wt.rowIs bx 38 3 (box3 y) := by rw [hWt, hbx]; exact box3_alloc wr y
                have hRR : OwnRR Wt w.heap.size u4 (rsB Cs n0 k i) cs := by rw [hWt, rsB, if_neg h0]; exact (unhide HO).later (below_alloc (Below.refl _ wr) _)
                have hvT : OwnV Wt wx.heap.size (.slice (some ⟨bv, ov, none⟩) ys.length c7) ys := by rw [hWt]; exact (unhide HV).later (below_alloc (Below.refl _ wr) _)
                have hapT := unhide HAp
                have hBT : Below w.heap.size w Wt := by rw [hWt]; exact below_alloc (unhide HBr) _
                have hubT : ∀ (j : Nat) u, cs[j]? = some u → u.ownBlock ≠ some bx := by
                  intro j u hu e
                  obtain ⟨r, _, hor⟩ := (unhide HO).at hu
                  have := (World.ownsRow.lt hor bx e).2
                  rw [hbx] at this; omega
                rw [← hWt, ← hbx]
                clear hWt m0 m1 m2 hbx
                obtain ⟨u, hu, hou⟩ := hRR.2.1 i _ (rsB_at h2)
                have hnn := rsB_len (Cs := Cs) (k := k) h2
                obtain ⟨RR, capR, eR⟩ := own_some hRR.1 (by rw [hnn]; split <;> omega)
                subst eR
                obtain ⟨F, mm, hrowR, hmm, hbR, hFc⟩ := own_heap hRR.1
                have hlen : ((rowOf Cs i).take k).length ≤ 2199023255552 := by rw [List.length_take, rowOf_len]; omega
                obtain ⟨nR, hnR⟩ : ∃ nR, nR = (rsB Cs n0 k i).length := ⟨_, rfl⟩
                rw [← hnR] at hRR hmm
                have HNR := hide hnR.symm
                have hin : i < nR := by rw [hnR, hnn]; split <;> omega
                rw [← hnR]
                clear hnR hnn
                have cR : Wt.cell? ⟨RR, i, none⟩ = some u := by rw [hrowR.cell (by omega), hFc i u hu]
                have HU := hide hu
                have HOU := hide hou
                have HRR := hide hRR
                have HRW := hide hrowR
                have HLN := hide hlen
                have hRlt : RR < Wt.heap.size := hrowR.lt
                have hne : RR ≠ bx := by
                  intro e
                  obtain ⟨c1, q1, _⟩ := hrowR
                  obtain ⟨c2, q2, _⟩ := hxT
                  rw [e, q2] at q1; simp at q1
                have iR : (i : Int) < (nR : Int) := by omega
                have hub : ∀ g, u.ownBlock = some g → g ≠ bx := by
                  intro g e1 e2
                  have := hubT i u hu
                  subst e2
                  exact this e1
                have HUB := hide hub
                have S0 := vS hxT.drew
                obtain ⟨zs, hzs⟩ : ∃ zs, zs = (rowOf Cs i).take k := ⟨_, rfl⟩
                rw [← hzs] at HOU HLN
                have HZS := hide hzs
                have hbase : w.heap.size ≤ Wt.heap.size := hBT.size
                clear hou hu hrowR hFc hlen hub hzs hRR
                obtain ⟨x0, x1, x2, _⟩ := box3_facts hxT
                have hxlt : bx < Wt.heap.size := hxT.lt
                clear S0
                go_region_law ((refine step_append_lies _ (by rfl) (.tmp 48) (.tmp 50) 22 (by rfl) w.heap.size 38 i40 (.agg #[.int .i64 0, .int .i64 0, .string ⟨#[]⟩]) 3 32 Tryz.underlying22 hi40 z40 z41 z42 (by rfl) (by decide) u zs.length (zs.flatMap c3) (by rfl) (World.ownsRow.drew (World.ownsRow.alloc (unhide HOU) _)) ⟨Wt.heap.size, 0, none⟩ 1 1 (c3 y) (by rfl) (by rfl) (cells3_new Wt y) (c3_one _) (by decide) (by have := unhide HLN; unfold maxLen; omega) (by have := unhide HLN; omega) (by simp; omega) (Wt.heap.size + 1) (by simp) ?_; intro g cap w1 hown1 hgrow1 hat1 hlt1; have hgr : (Wt.alloc (.cells #[.int .i64 y.k, .int .i64 y.n, .string y.s] 38)).grownBy w1 u.ownBlock := grown_drew hgrow1; have hR1 := rowIs_grown ((unhide HRW).alloc (.cells #[.int .i64 y.k, .int .i64 y.n, .string y.s] 38)) hgr (own_ne ((unhide HRW).alloc (.cells #[.int .i64 y.k, .int .i64 y.n, .string y.s] 38)) (World.ownsRow.alloc (unhide HOU) (.cells #[.int .i64 y.k, .int .i64 y.n, .string y.s] 38)) (by decide)); have cR1 := hR1.cell (i := i) (by omega); have fR1 := hR1.frozen i))
                all_goals
                  have hown2 := ownV_len (ownV_app hown1) (by rw [unhide HZS] : zs ++ [y] = (rowOf Cs i).take k ++ [y])
                  obtain ⟨q1, q2, q3, q4⟩ := across_put (unhide HRR) (unhide HNR) h2 (unhide HU) (unhide HYY) hown2 hgr hat1 hvT hapT hBT
                  go_wp2
                  go_roundw
                  case rel => exact ⟨i + 1, _, by omega, by go_num, q1, q2, q3, q4⟩
                  case measure => simp [intOf]; omega
            · have i2 : ¬ (i : Int) < (ys.length : Int) := by rw [unhide HVL]; omega
              have HF : Hid (OwnRR wr w.heap.size u4 (rsA Cs n0 (k + 1) 0) cs) := by
                have e : i = n0 := by omega
                have := unhide HO
                rw [e, rsA_next] at this
                exact this
              go_wp2
              go_roundw
              case rel => exact ⟨k + 1, cs, by omega, by go_num, HP, unhide HF, unhide HBr⟩
              case measure => simp [intOf]; omega
    · have i1 : ¬ (k : Int) < (Cs.length : Int) := by omega
      have HE : Hid (R = (rowsOf Cs, 0)) := by
        show _ = _
        have e : k = Cs.length := by omega
        have hP : Cs.any (badC (len0 Cs)) = false := noneG (by rw [← e]; exact unhide HN)
        rw [← unhide HR, tabV, if_neg (by rw [hP]; simp)]
      have HF : Hid (RowsV wr u4 (rowsOf Cs)) := by
        have e : k = Cs.length := by omega
        have := rows_of_own (unhide HO)
        rw [e, unhide HN0, rsA_all] at this
        exact this
      go_wp2
      go_ret2
      exact ⟨_, by rw [unhide HE]; rfl, by rw [unhide HE]; exact unhide HF, hb⟩
end Go.Proofs.YtmjeiepljlepbacGreat.Vv
