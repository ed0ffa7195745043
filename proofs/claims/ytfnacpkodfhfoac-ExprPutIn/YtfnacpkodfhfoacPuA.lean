import Derived.Test.YtfnacpkodfhfoacFoC
set_option linter.unusedSimpArgs false
set_option linter.unusedVariables false
namespace Go.Proofs.Ytfnacpkodfhfoac
open Go.RowKit Go.Sort

mutual
theorem meas_any (p : Ex → Bool) : ∀ (e : Ex) (N H : Int) {c h : Int}, measE p e N H = (c, h, true) → measE allE e N H = (c, h, true)
  | .mk op n v l, N, H, c, h, he => by
    rw [measE] at he ⊢
    split at he
    · injection he with _ he; injection he with _ he; cases he
    · rename_i hc
      simp only [Bool.or_eq_true, decide_eq_true_eq, not_or, Bool.not_eq_true'] at hc
      rw [if_neg (by simp only [Bool.or_eq_true, decide_eq_true_eq, not_or, Bool.not_eq_true']; exact ⟨hc.1, by simp [allE]⟩)]
      cases hm : measL p l N H 1 0 with
      | none => rw [hm] at he; simp only at he; injection he with _ he; injection he with _ he; cases he
      | some q =>
        rw [hm] at he
        rw [measL_any p l N H 1 0 (by rw [hm])]
        exact he
theorem measL_any (p : Ex → Bool) : ∀ (l : List Ex) (N H c h : Int) {q : Int × Int}, measL p l N H c h = some q → measL allE l N H c h = some q
  | [], N, H, c, h, q, he => by rw [measL] at he ⊢; exact he
  | e :: l, N, H, c, h, q, he => by
    rw [measL] at he ⊢
    split at he
    · rename_i hok
      obtain ⟨c2, h2', ok, hm⟩ : ∃ c2 h2 ok, measE p e (N - c) (H - 1) = (c2, h2, ok) := ⟨_, _, _, rfl⟩
      rw [hm] at he hok
      simp only at he hok
      subst hok
      rw [meas_any p e (N - c) (H - 1) hm]
      simp only [if_true]
      exact measL_any p l N H _ _ he
    · cases he
end
theorem built_ends {e : Ex} (h : builtE e = true) : (measE allE e 33554432 131072).2.2 = true := by
  obtain ⟨c, h2, ok, hm⟩ : ∃ c h2 ok, measE soundE e 400 40 = (c, h2, ok) := ⟨_, _, _, rfl⟩
  unfold builtE at h
  rw [hm] at h
  simp only at h
  subst h
  rw [meas_mono allE e 400 40 33554432 131072 (meas_any soundE e 400 40 hm) (by omega) (by omega)]
theorem built_copyT {e : Ex} (h : builtE e = true) : copyT e = copyE e := by unfold copyT; rw [built_ends h]; rfl
mutual
theorem copy_eval (row : List Val) : ∀ (e : Ex), goodE e → evalE row (copyE e) = evalE row e
  | .mk op n v l, hg => by
    have hl := copy_evalL row l (good_open hg).2
    have hn := no_args hg
    rw [copyE, evalE, evalE, hl]
    cases l with
    | nil =>
      rw [evalL]
      simp only [nodeV]
      rcases hn rfl with ⟨h1, _⟩ | h2
      · have h1 : op = 1 := h1
        subst h1; rfl
      · have h2 : op = 2 := h2
        subst h2
        simp only [beq_self_eq_true, if_true]
        rw [clean_clean]
    | cons x l =>
      rw [evalL]
      cases l with
      | nil => rw [evalL]; rfl
      | cons y l =>
        rw [evalL]
        cases l with
        | nil => rw [evalL]; rfl
        | cons z l => rw [evalL]; rfl
theorem copy_evalL (row : List Val) : ∀ (l : List Ex), goodL l → evalL row (copyL l) = evalL row l
  | [], _ => by rw [copyL]
  | e :: l, hg => by
    rw [goodL] at hg
    rw [copyL, evalL, evalL, copy_eval row e hg.1, copy_evalL row l hg.2]
end
mutual
/-- The columns in an expression, as often as they stand there. -/
def colsE : Ex → List Int
  | .mk op n _ l => (if op == 1 then [n] else []) ++ colsL l
def colsL : List Ex → List Int
  | [] => []
  | e :: l => colsE e ++ colsL l
end
theorem colsE_eq (e : Ex) : colsE e = (if e.op == 1 then [e.n] else []) ++ colsL e.args := by cases e; rw [colsE]; rfl
theorem cols_mem : ∀ {l : List Ex} {x : Ex} {n : Int}, x ∈ l → n ∈ colsE x → n ∈ colsL l
  | [], _, _, h, _ => by cases h
  | e :: l, x, n, h, hn => by
    rw [colsL, List.mem_append]
    rcases List.mem_cons.1 h with rfl | h
    · exact .inl hn
    · exact .inr (cols_mem h hn)
def usesB (e : Ex) (n : Int) : Bool := (colsE e).all fun c => decide (c < n)
theorem uses_arg {e x : Ex} {i : Nat} {n : Int} (h : usesB e n = true) (hx : e.args[i]? = some x) : usesB x n = true := by
  unfold usesB at h ⊢
  rw [List.all_eq_true] at h ⊢
  intro c hc
  exact h c (by rw [colsE_eq, List.mem_append]; exact .inr (cols_mem (List.mem_of_getElem? hx) hc))
theorem uses_col {e : Ex} {n : Int} (h : usesB e n = true) (h1 : e.op = 1) : e.n < n := by
  unfold usesB at h
  rw [List.all_eq_true] at h
  have := h e.n (by rw [colsE_eq, h1]; simp)
  simpa using this
/-- What is put in for a column. -/
def putG (by_ : List Ex) (e : Ex) : Ex := if e.op == 1 then copyT (by_.getD e.n.toNat e) else e
theorem putG_col {by_ : List Ex} {x : Ex} (h : x.op = 1) : putG by_ x = copyT (by_.getD x.n.toNat x) := by unfold putG; rw [h]; rfl
theorem putG_no {by_ : List Ex} {x : Ex} (h : ¬ x.op = 1) : putG by_ x = x := by
  have e1 : (x.op == 1) = false := by simpa using h
  unfold putG
  rw [e1]
  rfl
theorem col_args {x : Ex} (hg : goodE x) (h1 : x.op = 1) : x.args = [] := by
  have hl := sound_len (good_open hg).1
  rw [h1, show arI 1 = 0 by decide] at hl
  exact List.eq_nil_of_length_eq_zero (by omega)
theorem col_nat {x : Ex} (hg : goodE x) (h1 : x.op = 1) : 0 ≤ x.n := by
  rcases no_args hg (col_args hg h1) with ⟨_, h⟩ | h
  · exact h
  · rw [h1] at h; cases h
theorem getD_at {l : List Ex} {n : Nat} {d : Ex} (h : n < l.length) : l[n]? = some (l.getD n d) := by
  rw [List.getD_eq_getElem?_getD, List.getElem?_eq_getElem h]
  rfl
/-- With others put in: worked out as they are first, and then it. -/
theorem put_eval (row : List Val) (by_ : List Ex) (hb : ∀ x ∈ by_, builtE x = true) : ∀ e, goodE e → usesB e by_.length = true → evalE row (madeE (putG by_) e) = evalE (by_.map (evalE row)) e := fold_ind _ fun e hg ih hu => by
  rw [madeE_eq]
  by_cases h1 : e.op = 1
  · have hn := col_nat hg h1
    have hlt := uses_col hu h1
    have ho : (nodeG (putG by_) e).op = 1 := h1
    have hnn : (nodeG (putG by_) e).n = e.n := by show (if e.op == 1 then e.n else 0) = e.n; rw [h1]; rfl
    have hg2 : by_[e.n.toNat]? = some (by_.getD e.n.toNat (nodeG (putG by_) e)) := getD_at (by omega)
    have hp : putG by_ (nodeG (putG by_) e) = copyT (by_.getD e.n.toNat (nodeG (putG by_) e)) := by rw [putG_col ho, hnn]
    rw [hp]
    generalize by_.getD e.n.toNat (nodeG (putG by_) e) = x at *
    have hx := hb x (List.mem_of_getElem? hg2)
    rw [built_copyT hx, copy_eval row x (built_good hx), evalE_eq _ e, col_args hg h1, evalL, h1]
    have hx2 : (by_.map (evalE row)).getD e.n.toNat .null = evalE row x := by
      rw [List.getD_eq_getElem?_getD, List.getElem?_map, hg2]
      rfl
    show _ = if decide (((by_.map (evalE row)).length : Int) ≤ e.n) then Val.null else cleanV ((by_.map (evalE row)).getD e.n.toNat .null)
    rw [hx2, List.length_map, if_neg (by simp; omega), (eval_clean row x).1]
  · have e1 : (e.op == 1) = false := by simpa using h1
    have hp : putG by_ (nodeG (putG by_) e) = nodeG (putG by_) e := putG_no (show ¬ e.op = 1 from h1)
    rw [hp, evalE_eq, evalE_eq _ e]
    show nodeV e.op (if e.op == 1 then e.n else 0) (if e.op == 2 then cleanV e.v else .null) row (evalL row (e.args.map (madeE (putG by_)))) = _
    have hl : evalL row (e.args.map (madeE (putG by_))) = evalL (by_.map (evalE row)) e.args := by
      have key : ∀ (l : List Ex), (∀ x ∈ l, evalE row (madeE (putG by_) x) = evalE (by_.map (evalE row)) x) → evalL row (l.map (madeE (putG by_))) = evalL (by_.map (evalE row)) l := by
        intro l
        induction l with
        | nil => intro _; rw [List.map_nil, evalL, evalL]
        | cons x l ihl => intro h; rw [List.map_cons, evalL, evalL, h x (by simp), ihl fun y hy => h y (by simp [hy])]
      refine key e.args fun x hx => ?_
      obtain ⟨i, hi⟩ := List.getElem?_of_mem hx
      exact (ih x hx).2 (uses_arg hu hi)
    rw [hl]
    cases ha : e.args with
    | nil =>
      rw [evalL]
      rcases no_args hg ha with ⟨h, _⟩ | h2
      · exact absurd h h1
      · simp only [nodeV]
        rw [h2]; simp [clean_clean]
    | cons x l =>
      rw [evalL]
      cases l with
      | nil => rw [evalL]; rfl
      | cons y l =>
        rw [evalL]
        cases l with
        | nil => rw [evalL]; rfl
        | cons z l => rw [evalL]; rfl
/-- Nothing in it is too great. -/
theorem put_fin (by_ : List Ex) (hb : ∀ x ∈ by_, builtE x = true) (hbf : Ex.fins by_) : ∀ e, goodE e → usesB e by_.length = true → e.fin → (madeE (putG by_) e).fin := fold_ind _ fun e hg ih hu hf => by
  rw [madeE_eq]
  by_cases h1 : e.op = 1
  · have hn := col_nat hg h1
    have hlt := uses_col hu h1
    have ho : (nodeG (putG by_) e).op = 1 := h1
    have hnn : (nodeG (putG by_) e).n = e.n := by show (if e.op == 1 then e.n else 0) = e.n; rw [h1]; rfl
    have hg2 : by_[e.n.toNat]? = some (by_.getD e.n.toNat (nodeG (putG by_) e)) := getD_at (by omega)
    have hp : putG by_ (nodeG (putG by_) e) = copyT (by_.getD e.n.toNat (nodeG (putG by_) e)) := by rw [putG_col ho, hnn]
    rw [hp]
    exact copyT_fin2 (Ex.fins_mem hbf (List.mem_of_getElem? hg2))
  · have e1 : (e.op == 1) = false := by simpa using h1
    have hp : putG by_ (nodeG (putG by_) e) = nodeG (putG by_) e := putG_no (show ¬ e.op = 1 from h1)
    rw [hp]
    obtain ⟨⟨k1, k2, k3, k4⟩, k5⟩ := Ex.fin_open hf
    refine fin_mk _ ⟨?_, ?_, ?_, ?_⟩ (Ex.fins_of _ fun x hx => ?_)
    · show (e.args.map (madeE (putG by_))).length ≤ _
      rw [List.length_map]; exact k1
    · show (if e.op == 2 then cleanV e.v else .null).s.size ≤ _
      split
      · exact Nat.le_trans (clean_size _) k2
      · exact Nat.zero_le _
    · show In64 (if e.op == 2 then cleanV e.v else .null).n
      split
      · exact clean_in _ k3
      · exact in64_zero
    · show In64 (if e.op == 1 then e.n else 0)
      split
      · exact k4
      · exact in64_zero
    · obtain ⟨y, hy, rfl⟩ := List.mem_map.1 (show x ∈ e.args.map (madeE (putG by_)) from hx)
      obtain ⟨i, hi⟩ := List.getElem?_of_mem hy
      exact (ih y hy).2 (uses_arg hu hi) (Ex.fins_mem k5 hy)
end Go.Proofs.Ytfnacpkodfhfoac
