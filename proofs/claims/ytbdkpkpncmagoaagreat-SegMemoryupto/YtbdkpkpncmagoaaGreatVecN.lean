import Derived.Test.YtbdkpkpncmagoaaGreatVecH
set_option linter.unusedSimpArgs false
set_option linter.unusedVariables false
namespace Go.Proofs.YtbdkpkpncmagoaaGreat
open Go.RowKit Go.Sort

def atV (X : Vc) (i : Nat) : Val := if X.nl.getD i false then .null else if X.k == 1 then .num (X.ns.getD i 0) else .str (X.ss.getD i ⟨#[]⟩)
def valsV (X : Vc) : List Val := if goodB X then (List.range X.nl.length).map (atV X) else []
theorem vals_at {X : Vc} (hg : goodB X = true) {i : Nat} (hi : i < X.nl.length) : (valsV X)[i]? = some (atV X i) := by simp [valsV, hg, hi]
theorem vals_len {X : Vc} (hg : goodB X = true) : (valsV X).length = X.nl.length := by simp [valsV, hg]
theorem vals_none {X : Vc} (hg : goodB X = false) : valsV X = [] := by simp [valsV, hg]
theorem vals_le (X : Vc) : (valsV X).length ≤ X.nl.length := by
  cases h : goodB X
  · rw [vals_none h]; simp
  · rw [vals_len h]; exact Nat.le_refl _
theorem good_kinds {X : Vc} (hg : goodB X = true) : ((X.k == 1) = true ∧ X.ns.length = X.nl.length) ∨ ((X.k == 1) = false ∧ (X.k == 2) = true ∧ X.ss.length = X.nl.length) := by
  unfold goodB at hg
  rcases Bool.eq_false_or_eq_true (X.k == 1) with k1 | k1
  · rw [k1] at hg
    simp [znN] at hg
    exact .inl ⟨k1, hg.2.1.symm⟩
  · rcases Bool.eq_false_or_eq_true (X.k == 2) with k2 | k2
    · rw [k1, k2] at hg
      simp [znS] at hg
      exact .inr ⟨k1, k2, hg.1.2.1.symm⟩
    · rw [k1, k2] at hg; simp at hg

set_option maxHeartbeats 1000000 in
theorem at_any (X : Vc) (p : Sl) (w : World) (hs : small X) (hg : goodB X = true) (hp : VecAt w X p) (i : Nat) (hi : i < X.nl.length) :
    Calls Tryz.prog 52 #[vecV X p, .int .i64 i] w fun e w' => e = .returned (atV X i).v ∧ Below w.heap.size w w' := by
  rw [vecV_open]
  obtain ⟨l1, l2, l3⟩ := hs
  obtain ⟨b, hb⟩ : ∃ b, X.nl[i]? = some b := ⟨_, List.getElem?_eq_getElem hi⟩
  obtain ⟨pb, po, ea, cp⟩ := hp.1.get (k := i) (x := .bool b) (by simp [hb])
  rw [ea]
  have i1 : (i : Int) < (X.nl.length : Int) := by omega
  have hbl := World.block_lt_of_cell? _ _ cp
  simp only at hbl
  cases b
  · rcases good_kinds hg with ⟨k1, e1⟩ | ⟨k1, k2, e1⟩
    · obtain ⟨m, hm⟩ : ∃ m, X.ns[i]? = some m := ⟨_, List.getElem?_eq_getElem (by omega)⟩
      obtain ⟨qb, qo, eb, cq⟩ := hp.2.1.get (k := i) (x := .int .i64 m) (by simp [hm])
      rw [eb]
      have i2 : (i : Int) < (X.ns.length : Int) := by omega
      have hbl2 := World.block_lt_of_cell? _ _ cq
      simp only at hbl2
      have HV : Hid (atV X i = .num m) := by show _ = _; simp [atV, hb, k1, hm]
      generalize atV X i = V at HV ⊢
      clear ea eb hb hm hp hg e1
      go_enter Tryz.func52, Tryz.ntmps52
      go_wp2
      refine bodyPost_ret (v := (Val.num m).v) (by simp [results, Tryz.results52, go_sem, Val.v, Val.num]) rfl ⟨by rw [unhide HV], ?_⟩
      (repeat (first | exact Below.refl _ _ | refine Below.alloc ?_ (by simp <;> omega) _ | refine Below.setCell ?_ (by simp <;> omega) _))
    · obtain ⟨m, hm⟩ : ∃ m, X.ss[i]? = some m := ⟨_, List.getElem?_eq_getElem (by omega)⟩
      obtain ⟨qb, qo, eb, cq⟩ := hp.2.2.get (k := i) (x := .string m) (by simp [hm])
      rw [eb]
      have i2 : (i : Int) < (X.ss.length : Int) := by omega
      have hbl2 := World.block_lt_of_cell? _ _ cq
      simp only at hbl2
      have HV : Hid (atV X i = .str m) := by show _ = _; simp [atV, hb, k1, hm]
      generalize atV X i = V at HV ⊢
      clear ea eb hb hm hp hg e1
      go_enter Tryz.func52, Tryz.ntmps52
      go_wp2
      refine bodyPost_ret (v := (Val.str m).v) (by simp [results, Tryz.results52, go_sem, Val.v, Val.str]) rfl ⟨by rw [unhide HV], ?_⟩
      (repeat (first | exact Below.refl _ _ | refine Below.alloc ?_ (by simp <;> omega) _ | refine Below.setCell ?_ (by simp <;> omega) _))
  · have HV : Hid (atV X i = .null) := by show _ = _; simp [atV, hb]
    generalize atV X i = V at HV ⊢
    clear ea hb hp hg
    go_enter Tryz.func52, Tryz.ntmps52
    go_wp2
    refine bodyPost_ret (v := Val.null.v) (by simp [results, Tryz.results52, go_sem, Val.v, Val.null]) rfl ⟨by rw [unhide HV], ?_⟩
    (repeat (first | exact Below.refl _ _ | refine Below.alloc ?_ (by simp <;> omega) _ | refine Below.setCell ?_ (by simp <;> omega) _))

set_option maxHeartbeats 1000000 in
theorem len_any (X : Vc) (p : Sl) (w : World) (hs : small X) (hp : VecAt w X p) :
    Calls Tryz.prog 45 #[vecV X p] w fun e w' => e = .returned (.int .i64 ((valsV X).length : Nat)) ∧ Below w.heap.size w w' := by
  have HG : Hid (∀ w', Below w.heap.size w w' → Calls Tryz.prog 51 #[vecV X p] w' fun e w'' => e = .returned (.bool (goodB X)) ∧ Below w'.heap.size w' w'') := fun w' hb => good_any X p w' hs (hp.later hb)
  have HV : Hid ((valsV X).length = if goodB X then X.nl.length else 0) := by
    show _ = _
    cases h : goodB X
    · simp [vals_none h]
    · simp [vals_len h]
  obtain ⟨l1, l2, l3⟩ := hs
  generalize (valsV X).length = N at HV ⊢
  generalize goodB X = G at HV HG
  rw [vecV_open]
  clear hp
  cases G
  · have HE : Hid (N = 0) := unhide HV
    go_enter Tryz.func45, Tryz.ntmps45
    go_wp2_with (go_at_call 51; refine (unhide HG _ (below_alloc (Below.refl _ _) _)).mono ?_; rintro e w1 ⟨rfl, hb1⟩)
    go_ret
    exact ⟨by rw [unhide HE]; rfl, below_one hb1⟩
  · have HE : Hid (N = X.nl.length) := unhide HV
    go_enter Tryz.func45, Tryz.ntmps45
    go_wp2_with (go_at_call 51; refine (unhide HG _ (below_alloc (Below.refl _ _) _)).mono ?_; rintro e w1 ⟨rfl, hb1⟩; obtain ⟨⟨r0, r1, r2, r3⟩, hbb, hzz⟩ := boxV_facts hb1)
    go_ret
    exact ⟨by rw [unhide HE]; rfl, hbb⟩
end Go.Proofs.YtbdkpkpncmagoaaGreat
