import Derived.Test.YtmjeiepljlepbacGreatPuA
import Derived.Test.YtmjeiepljlepbacGreatKnB
import Derived.Test.YtmjeiepljlepbacGreatTabA
import Derived.Test.YtmjeiepljlepbacGreatKnE
set_option linter.unusedSimpArgs false
set_option linter.unusedVariables false
set_option maxRecDepth 100000
namespace Go.Proofs.YtmjeiepljlepbacGreat
open Go.RowKit Go.Sort

theorem cols_arg {e x : Ex} (h1 : e.op ≠ 1) (hx : x ∈ e.args) : ∀ n ∈ colsE x, n ∈ colsE e := by
  intro n hn
  cases e with
  | mk op m v l =>
    rw [colsE]
    obtain ⟨i, hi⟩ := List.mem_iff_getElem?.1 hx
    have h2 := colsL_take hi
    have h3 : n ∈ colsL (l.take (i + 1)) := by
      have : colsL ((Ex.mk op m v l).args.take (i + 1)) = _ := h2
      rw [show l.take (i + 1) = (Ex.mk op m v l).args.take (i + 1) from rfl, h2]
      exact List.mem_append.2 (.inr hn)
    have h4 : ∀ (l : List Ex) (k : Nat), ∀ n ∈ colsL (l.take k), n ∈ colsL l := by
      intro l
      induction l with
      | nil => intro k n hn; simpa using hn
      | cons y l ih =>
        intro k n hn
        cases k with
        | zero => rw [List.take_zero, colsL] at hn; cases hn
        | succ k =>
          rw [List.take_succ_cons, colsL] at hn
          rw [colsL]
          rcases List.mem_append.1 hn with hn | hn
          · exact List.mem_append.2 (.inl hn)
          · exact List.mem_append.2 (.inr (ih k n hn))
    have h5 := h4 l _ n h3
    have h1' : op ≠ 1 := h1
    have e1 : (op == 1) = false := by simpa using h1'
    first
      | (rw [e1]; simpa using h5)
      | simpa [e1] using h5
/-- What is worked out hangs on the columns that stand in it alone. -/
theorem eval_agree (r1 r2 : List Val) (hl : r1.length = r2.length) : ∀ e, goodE e → (∀ n ∈ colsE e, r1[n.toNat]? = r2[n.toNat]?) → evalE r1 e = evalE r2 e := fold_ind _ fun e hg ih hc => by
  rw [evalE_eq, evalE_eq r2 e]
  by_cases h0 : e.args = []
  · rw [h0, evalL, evalL]
    rcases no_args hg h0 with ⟨h1, hn⟩ | h2
    · have hm : e.n ∈ colsE e := by
        cases e with
        | mk op n v l =>
          have h1' : op = 1 := h1
          subst h1'
          rw [colsE]
          simp [Ex.n]
      have hr := hc e.n hm
      rw [h1]
      simp only [nodeV, hl, List.getD_eq_getElem?_getD, hr]
    · rw [h2]; rfl
  · have hp : 0 < (evalL r1 e.args).length := by rw [evalL_len]; exact List.length_pos_iff.2 h0
    have hargs : evalL r1 e.args = evalL r2 e.args := by
      have h1 : e.op ≠ 1 := by
        intro h
        have hs := sound_len (good_open hg).1
        rw [h, show arI 1 = 0 by decide] at hs
        exact h0 (List.eq_nil_of_length_eq_zero (by omega))
      have key : ∀ l : List Ex, (∀ x ∈ l, x ∈ e.args) → evalL r1 l = evalL r2 l := by
        intro l
        induction l with
        | nil => intro _; rw [evalL, evalL]
        | cons x l ihl =>
          intro hx
          rw [evalL, evalL, (ih x (hx x (by simp))).2 fun n hn => hc n (cols_arg h1 (hx x (by simp)) n hn), ihl fun y hy => hx y (by simp [hy])]
      exact key e.args fun x hx => hx
    rw [node_row hp (row' := r2), hargs]
end Go.Proofs.YtmjeiepljlepbacGreat
set_option linter.unusedSimpArgs false
set_option linter.unusedVariables false
set_option maxRecDepth 100000
namespace Go.Proofs.YtmjeiepljlepbacGreat
open Go.RowKit Go.Sort

/-- Null, or of this kind. -/
def OfK (k : Int) (v : Val) : Prop := v.k = 0 ∨ v.k = k
theorem of_null (k : Int) : OfK k .null := .inl rfl
theorem of_num (n : Int) : OfK 1 (.num n) := .inr rfl
theorem of_truth (b : Bool) : OfK 1 (truthV b) := .inr rfl
theorem of_clean {k : Int} {v : Val} (h : OfK k v) : OfK k (cleanV v) := by
  unfold cleanV
  split
  · rename_i h1
    have : v.k = 1 := by simpa using h1
    rcases h with h | h
    · rw [h] at this; cases this
    · exact .inr (by show (1 : Int) = k; omega)
  · split
    · rename_i h2
      have : v.k = 2 := by simpa using h2
      rcases h with h | h
      · rw [h] at this; cases this
      · exact .inr (by show (2 : Int) = k; omega)
    · exact .inl rfl
theorem of_reck (op : Int) (a b : Val) : OfK 1 (reckV op a b) := by
  unfold reckV
  split
  · unfold optV
    split
    · exact .inr rfl
    · exact .inl rfl
  · exact .inl rfl
theorem of_not (a : Val) : OfK 1 (notV a) := by unfold notV; split; exact of_truth _; exact of_null _
theorem of_test (op : Int) (a b : Val) : OfK 1 (testV op a b) := by
  unfold testV
  split
  · exact of_null _
  · cases h : testB op (ordV a b) with
    | none => rw [testR_none h]; exact of_null _
    | some t => rw [testR_some h]; exact of_truth _
theorem of_cat (a b : Val) : OfK 2 (catV a b) := by unfold catV; split; exact .inr rfl; exact of_null _
theorem of_both (op : Int) (a b : Val) : OfK 1 (bothV op a b) := by
  unfold bothV
  repeat' split
  all_goals first | exact of_truth _ | exact of_null _
theorem kL_get {ks : List Int} : ∀ {l : List Ex} {d : List Int}, kL ks l = some d → d.length = l.length ∧ ∀ (i : Nat) (x : Ex), l[i]? = some x → ∃ k, d[i]? = some k ∧ kE ks x = some k
  | [], d, h => by rw [kL] at h; injection h with h; subst h; exact ⟨rfl, fun i x hx => by cases hx⟩
  | e :: l, d, h => by
    rw [kL] at h
    cases he : kE ks e with
    | none => rw [he] at h; cases h
    | some k =>
      rw [he] at h
      cases hl : kL ks l with
      | none => rw [hl] at h; cases h
      | some d' =>
        rw [hl] at h
        injection h with h
        subst h
        obtain ⟨h1, h2⟩ := kL_get hl
        refine ⟨by simp [h1], fun i x hx => ?_⟩
        cases i with
        | zero => simp at hx; subst hx; exact ⟨k, rfl, he⟩
        | succ i => exact h2 i x (by simpa using hx)
/-- What is worked out is null, or of the expression's kind. -/
theorem eval_kind (ks : List Int) (row : List Val) (hl : row.length = ks.length) (hr : ∀ (i : Nat) (v : Val), row[i]? = some v → OfK (ks.getD i 0) v) : ∀ e, goodE e → ∀ k, kE ks e = some k → OfK k (evalE row e) := fold_ind _ fun e hg ih k hk => by
  rw [evalE_eq]
  rw [kE_eq] at hk
  rcases shape (good_open hg).1 with ⟨ho, hA, hn0⟩ | ⟨ho, hA⟩ | ⟨x, hA, ho⟩ | ⟨x, y, hA, ho1, ho2⟩ | ⟨x, y, z, hA, ho⟩
  · rw [hA, evalL, ho]
    rw [ho] at hk
    simp only [beq_self_eq_true, if_true, Option.some.injEq] at hk
    simp only [nodeV]
    rw [if_neg (by decide)]
    split
    · exact of_null _
    · rename_i hlt
      have hlt' : e.n < (row.length : Int) := by simpa using hlt
      have hgt : row[e.n.toNat]? = some (row[e.n.toNat]'(by omega)) := List.getElem?_eq_getElem (by omega)
      have h := hr _ _ hgt
      rw [hk] at h
      rw [List.getD_eq_getElem?_getD, hgt]
      exact of_clean h
  · rw [hA, evalL, ho]
    rw [ho] at hk
    simp at hk
    simp only [nodeV]
    rw [if_pos (by decide), ← hk]
    exact .inr rfl
  · have h1 : (e.op == 1) = false := by rcases ho with h | h | h | h <;> rw [h] <;> rfl
    have h2 : (e.op == 2) = false := by rcases ho with h | h | h | h <;> rw [h] <;> rfl
    rw [h1, h2] at hk
    simp only [Bool.false_eq_true, if_false] at hk
    cases hd : kL ks e.args with
    | none => rw [hd] at hk; cases hk
    | some d =>
      rw [hd] at hk
      simp only at hk
      split at hk
      · injection hk with hk
        rw [hA, evalL, evalL]
        simp only [nodeV]
        have hk1 : k = 1 := by rw [← hk]; unfold kOf; rcases ho with h | h | h | h <;> rw [h] <;> rfl
        subst hk1
        unfold oneV
        split
        · exact of_reck _ _ _
        · split
          · exact of_not _
          · split
            · split <;> exact of_num _
            · split
              · exact of_num _
              · exact of_null _
      · cases hk
  · have h1 : (e.op == 1) = false := by have : e.op ≠ 1 := by omega
                                        simpa using this
    have h2 : (e.op == 2) = false := by have : e.op ≠ 2 := by omega
                                        simpa using this
    rw [h1, h2] at hk
    simp only [Bool.false_eq_true, if_false] at hk
    cases hd : kL ks e.args with
    | none => rw [hd] at hk; cases hk
    | some d =>
      rw [hd] at hk
      simp only at hk
      split at hk
      · injection hk with hk
        rw [hA, evalL, evalL, evalL]
        simp only [nodeV]
        by_cases h18 : e.op = 18
        · have hk2 : k = 2 := by rw [← hk, h18]; rfl
          subst hk2
          rw [h18]
          exact of_cat _ _
        · have hk1 : k = 1 := by
            rw [← hk]
            have h5 : (e.op == 5) = false := by have : e.op ≠ 5 := by omega
                                                simpa using this
            have h6 : (e.op == 6) = false := by have : e.op ≠ 6 := by omega
                                                simpa using this
            have h18' : (e.op == 18) = false := by simpa using h18
            have h21 : (e.op == 21) = false := by have : e.op ≠ 21 := by omega
                                                  simpa using this
            unfold kOf
            rw [h5, h6, h18', h21]
            simp only [Bool.false_eq_true, if_false]
            split <;> rfl
          subst hk1
          unfold twoV
          split
          · exact of_reck _ _ _
          · split
            · exact of_test _ _ _
            · split
              · rename_i h; exact absurd (by simpa using h) h18
              · exact of_both _ _ _
      · cases hk
  · rw [ho] at hk
    simp only [show ((21 : Int) == 1) = false from rfl, show ((21 : Int) == 2) = false from rfl, Bool.false_eq_true, if_false] at hk
    cases hd : kL ks e.args with
    | none => rw [hd] at hk; cases hk
    | some d =>
      rw [hd] at hk
      simp only at hk
      split at hk
      · rename_i hok
        injection hk with hk
        obtain ⟨hdl, hdk⟩ := kL_get hd
        obtain ⟨ky, hy1, hy2⟩ := hdk 1 y (by rw [hA]; rfl)
        obtain ⟨kz, hz1, hz2⟩ := hdk 2 z (by rw [hA]; rfl)
        have e1 : d.getD 1 0 = ky := by rw [List.getD_eq_getElem?_getD, hy1]; rfl
        have e2 : d.getD 2 0 = kz := by rw [List.getD_eq_getElem?_getD, hz1]; rfl
        have iy := (ih y (by rw [hA]; simp)).2 ky hy2
        have iz := (ih z (by rw [hA]; simp)).2 kz hz2
        have hkk : k = (comm ky kz).1 := by rw [← hk, ← e1, ← e2]; rfl
        have hcc : (comm ky kz).2 = true := by
          rw [← e1, ← e2]
          have : (kOf 21 d).2 = ((comm (d.getD 1 0) (d.getD 2 0)).2 && fitB 1 (d.take 1)) := rfl
          rw [this] at hok
          simp only [Bool.and_eq_true] at hok
          exact hok.1
        have hy' : ky = 0 ∨ ky = k := by
          rw [hkk]; unfold comm
          by_cases h0 : ky = 0
          · exact .inl h0
          · have : (ky == 0) = false := by simpa using h0
            rw [this]; exact .inr rfl
        have hz' : kz = 0 ∨ kz = k := by
          rw [hkk]; unfold comm at hcc ⊢
          by_cases h0 : ky = 0
          · have : (ky == 0) = true := by simpa using h0
            rw [this]; exact .inr rfl
          · have : (ky == 0) = false := by simpa using h0
            rw [this] at hcc ⊢
            simp only [Bool.false_eq_true, if_false, Bool.or_eq_true, beq_iff_eq] at hcc ⊢
            rcases hcc with h | h
            · exact .inl h
            · exact .inr h.symm
        rw [hA, evalL, evalL, evalL, evalL]
        simp only [nodeV]
        have up : ∀ {q : Int} {v : Val}, OfK q v → q = 0 ∨ q = k → OfK k v := fun h hq => by
          rcases h with h | h
          · exact .inl h
          · rcases hq with hq | hq
            · exact .inl (by rw [h, hq])
            · exact .inr (by rw [h, hq])
        split
        · exact up iy hy'
        · exact up iz hz'
      · cases hk
/-- What is worked out of short texts is short. -/
theorem eval_few (row : List Val) (hr : ∀ x ∈ row, Small x) : ∀ e, goodE e → Small (evalE row e) := fold_ind _ fun e hg ih => by
  rw [evalE_eq]
  have key : ∀ l : List Ex, (∀ x ∈ l, x ∈ e.args) → ∀ v ∈ evalL row l, Small v := by
    intro l
    induction l with
    | nil => intro _ v hv; rw [evalL] at hv; cases hv
    | cons x l ihl =>
      intro hx v hv
      rw [evalL] at hv
      rcases List.mem_cons.1 hv with rfl | hv
      · exact (ih x (hx x (by simp))).2
      · exact ihl (fun y hy => hx y (by simp [hy])) v hv
  have hall := key e.args fun x hx => hx
  have hsm : ∀ {v : Val}, Small v → Small (cleanV v) := fun {v} h => Nat.le_trans (clean_size v) h
  rcases shape (good_open hg).1 with ⟨ho, hA, hn0⟩ | ⟨ho, hA⟩ | ⟨x, hA, ho⟩ | ⟨x, y, hA, ho1, ho2⟩ | ⟨x, y, z, hA, ho⟩
  · rw [hA, evalL, ho]
    simp only [nodeV]
    rw [if_neg (by decide)]
    split
    · exact sm_null
    · refine hsm ?_
      rw [List.getD_eq_getElem?_getD]
      cases hq : row[e.n.toNat]? with
      | none => exact sm_null
      | some v => exact hr v (List.mem_of_getElem? hq)
  · rw [hA, evalL, ho]
    have hs := (good_open hg).1
    unfold soundE at hs
    rw [ho] at hs
    simp only [Bool.and_eq_true] at hs
    have h3 := hs.2
    rw [if_neg (by decide), if_pos (by decide)] at h3
    show (cleanV e.v).s.size ≤ 1000
    exact of_decide_eq_true h3
  · rw [hA, evalL, evalL]; exact sm_one _ _
  · rw [hA, evalL, evalL, evalL]; exact sm_two _ _ _
  · rw [hA, evalL, evalL, evalL, evalL] at hall ⊢
    simp only [nodeV]
    split
    · exact hall _ (by simp)
    · exact hall _ (by simp)
end Go.Proofs.YtmjeiepljlepbacGreat
set_option linter.unusedSimpArgs false
set_option linter.unusedVariables false
set_option maxRecDepth 100000
namespace Go.Proofs.YtmjeiepljlepbacGreat
open Go.RowKit Go.Sort

abbrev Col := Vv.Vc × Vv.Sl
def ksOf (Cs : List Col) : List Int := Cs.map (·.1.k)
def badN (n : Int) (c : Col) : Bool := !Vv.goodB c.1 || ((c.1.nl.length : Int) != n)
def valsO (Cs : List Col) (n : Nat) (e : Ex) : List Val := (List.range n).map fun i => evalE (Vv.rowOf Cs i) e
/-- The kind of the column that Over answers. -/
def kindO (ks : List Int) (e : Ex) : Int := if (kE ks e).getD 0 == 0 then 1 else (kE ks e).getD 0
/-- What Over answers. -/
def overV (Cs : List Col) (n : Int) (e : Ex) : Vv.Vc × Int :=
  if decide (n < 0) || decide (4096 < n) then (.zero, 1)
  else if Cs.any (badN n) then (.zero, 1)
  else if kErr (ksOf Cs) e != 0 then (.zero, kErr (ksOf Cs) e)
  else (Vv.laidV (kindO (ksOf Cs) e) (valsO Cs n.toNat e), 0)
theorem good_kind {X : Vv.Vc} (h : Vv.goodB X = true) : X.k = 1 ∨ X.k = 2 := by
  unfold Vv.goodB at h
  split at h
  · rename_i h1; exact .inl (by simpa using h1)
  · split at h
    · rename_i h1; exact .inr (by simpa using h1)
    · cases h
theorem clean_kinds (v : Val) : (cleanV v).k = 0 ∨ (cleanV v).k = 1 ∨ (cleanV v).k = 2 := by
  unfold cleanV
  split
  · exact .inr (.inl rfl)
  · split
    · exact .inr (.inr rfl)
    · exact .inl rfl
theorem kE_range (ks : List Int) (hk : ∀ k ∈ ks, k = 1 ∨ k = 2) : ∀ e, goodE e → ∀ k, kE ks e = some k → k = 0 ∨ k = 1 ∨ k = 2 := fold_ind _ fun e hg ih k h => by
  rw [kE_eq] at h
  split at h
  · injection h with h
    rw [← h, List.getD_eq_getElem?_getD]
    cases hq : ks[e.n.toNat]? with
    | none => exact .inl rfl
    | some q => rcases hk q (List.mem_of_getElem? hq) with h | h
                · exact .inr (.inl h)
                · exact .inr (.inr h)
  · split at h
    · injection h with h
      rw [← h]
      exact clean_kinds _
    · cases hd : kL ks e.args with
      | none => rw [hd] at h; cases h
      | some d =>
        rw [hd] at h
        simp only at h
        split at h
        · injection h with h
          obtain ⟨hdl, hdk⟩ := kL_get hd
          have hmem : ∀ i, d.getD i 0 = 0 ∨ d.getD i 0 = 1 ∨ d.getD i 0 = 2 := fun i => by
            rw [List.getD_eq_getElem?_getD]
            cases hq : d[i]? with
            | none => exact .inl rfl
            | some q =>
              have hi : i < e.args.length := by rw [← hdl]; exact (List.getElem?_eq_some_iff.1 hq).1
              obtain ⟨k', h1, h2⟩ := hdk i _ (List.getElem?_eq_getElem hi)
              rw [hq] at h1
              injection h1 with h1
              subst h1
              exact (ih _ (List.getElem_mem hi)).2 q h2
          rw [← h]
          unfold kOf
          split
          · exact .inr (.inl rfl)
          · split
            · exact .inr (.inl rfl)
            · split
              · exact .inr (.inr rfl)
              · split
                · exact .inr (.inl rfl)
                · split
                  · show (comm (d.getD 1 0) (d.getD 2 0)).1 = 0 ∨ _
                    unfold comm
                    split
                    · exact hmem 2
                    · exact hmem 1
                  · exact .inr (.inl rfl)
        · cases h
/-- The rows of good columns: of their kinds, short. -/
theorem row_kinds {Cs : List Col} (hg : ∀ c ∈ Cs, Vv.goodB c.1 = true) (i j : Nat) (v : Val) (h : (Vv.rowOf Cs i)[j]? = some v) : OfK ((ksOf Cs).getD j 0) v := by
  unfold Vv.rowOf at h
  rw [List.getElem?_map] at h
  cases hc : Cs[j]? with
  | none => rw [hc] at h; cases h
  | some c =>
    rw [hc] at h
    simp only [Option.map_some, Option.some.injEq] at h
    have hk : (ksOf Cs).getD j 0 = c.1.k := by rw [List.getD_eq_getElem?_getD]; simp [ksOf, hc]
    rw [hk, ← h]
    unfold Vv.atV
    split
    · exact of_null _
    · rcases good_kind (hg c (List.mem_of_getElem? hc)) with h1 | h1
      · rw [h1, if_pos (by decide)]; exact of_num _
      · rw [h1, if_neg (by decide)]; exact .inr rfl
/-- What Over hands to From is taken. -/
theorem from_ok {Cs : List Col} {n : Nat} {e : Ex} (hg : goodE e) (hgd : ∀ c ∈ Cs, Vv.goodB c.1 = true) (hsm : ∀ c ∈ Cs, ∀ i, Small (Vv.atV c.1 i)) (hk : kErr (ksOf Cs) e = 0) : Vv.fromV (kindO (ksOf Cs) e) (valsO Cs n e) = (Vv.laidV (kindO (ksOf Cs) e) (valsO Cs n e), 0) := by
  have hks : ∀ k ∈ ksOf Cs, k = 1 ∨ k = 2 := fun k hk => by
    obtain ⟨c, hc, rfl⟩ := List.mem_map.1 hk
    exact good_kind (hgd c hc)
  obtain ⟨k, hkE⟩ : ∃ k, kE (ksOf Cs) e = some k := by
    unfold kErr at hk
    split at hk
    · split at hk
      · rename_i h; exact Option.isSome_iff_exists.1 h
      · cases hk
    · cases hk
  have hr := kE_range (ksOf Cs) hks e hg k hkE
  have hclean : (valsO Cs n e).map cleanV = valsO Cs n e := by
    unfold valsO
    rw [List.map_map]
    exact List.map_congr_left fun i _ => (eval_clean _ e).1
  have hko : kindO (ksOf Cs) e = if k == 0 then 1 else k := by unfold kindO; rw [hkE]; rfl
  have hval : ∀ v ∈ valsO Cs n e, OfK (kindO (ksOf Cs) e) v ∧ Small v := fun v hv => by
    obtain ⟨i, _, rfl⟩ := List.mem_map.1 hv
    refine ⟨?_, eval_few _ (fun x hx => ?_) e hg⟩
    · have h := eval_kind (ksOf Cs) (Vv.rowOf Cs i) (by rw [Vv.rowOf_len]; simp [ksOf]) (fun j v hj => row_kinds hgd i j v hj) e hg k hkE
      rw [hko]
      by_cases h0 : k = 0
      · subst h0
        rcases h with h | h <;> exact .inl h
      · rw [if_neg (by simpa using h0)]; exact h
    · obtain ⟨c, hc, rfl⟩ := List.mem_map.1 hx
      exact hsm c hc i
  unfold Vv.fromV
  rw [hclean, if_neg, if_neg, if_neg]
  · rw [List.any_eq_true]
    rintro ⟨v, hv, hl⟩
    have := (hval v hv).2
    unfold Vv.largeB at hl
    simp only [decide_eq_true_eq] at hl
    unfold Small at this
    omega
  · rw [List.any_eq_true]
    rintro ⟨v, hv, hl⟩
    unfold Vv.badK at hl
    simp only [Bool.and_eq_true, bne_iff_ne] at hl
    rcases (hval v hv).1 with h | h
    · exact hl.1 h
    · exact hl.2 h
  · rw [hko]
    rcases hr with h | h | h <;> subst h <;> decide
end Go.Proofs.YtmjeiepljlepbacGreat
