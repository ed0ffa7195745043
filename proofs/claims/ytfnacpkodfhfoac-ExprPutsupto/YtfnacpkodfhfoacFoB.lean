import Derived.Test.YtfnacpkodfhfoacFoA
set_option linter.unusedSimpArgs false
set_option linter.unusedVariables false
namespace Go.Proofs.Ytfnacpkodfhfoac
open Go.RowKit Go.Sort

abbrev conE (v : Val) : Ex := .mk 2 0 v []
def notConst (e : Ex) : Bool := e.op != 2
def zeroB (v : Val) : Bool := decide (v.k = 1) && (decide (v.n = 0) && decide (v.s = ⟨#[]⟩))
def isZeroE (e : Ex) : Bool := (e.op == 2) && zeroB e.v
def isTrueE (e : Ex) : Bool := (e.op == 2) && trueB e.v
/-- A node whose parts are folded, folded. -/
def simpE (e : Ex) : Ex :=
  if decide (0 < e.args.length) && !(e.args.any notConst) then conE (evalE [] e)
  else if e.op == 19 then (match e.args with
    | [x, y] => if isZeroE x then x else if isZeroE y then y else e
    | _ => e)
  else if e.op == 20 then (if e.args.any isTrueE then conE (.num 1) else e)
  else if e.op == 21 then (match e.args with
    | [x, y, z] => if x.op == 2 then (if isTrueE x then y else z) else e
    | _ => e)
  else e
abbrev foldE : Ex → Ex := madeE simpE
/-- What becomes of a node. -/
theorem simp_cases (e : Ex) (hg : goodE e) : (0 < e.args.length ∧ (∀ x ∈ e.args, x.op = 2) ∧ simpE e = conE (evalE [] e)) ∨
    (simpE e = e) ∨
    (e.op = 19 ∧ ∃ x y, e.args = [x, y] ∧ ((isZeroE x = true ∧ simpE e = x) ∨ (isZeroE y = true ∧ simpE e = y))) ∨
    (e.op = 20 ∧ (∃ x y, e.args = [x, y] ∧ (isTrueE x = true ∨ isTrueE y = true)) ∧ simpE e = conE (.num 1)) ∨
    (e.op = 21 ∧ ∃ x y z, e.args = [x, y, z] ∧ x.op = 2 ∧ ((isTrueE x = true ∧ simpE e = y) ∨ (isTrueE x = false ∧ simpE e = z))) := by
  unfold simpE
  split
  · rename_i h
    simp only [Bool.and_eq_true, decide_eq_true_eq, Bool.not_eq_true', List.any_eq_false] at h
    exact .inl ⟨h.1, fun x hx => by have := h.2 x hx; simpa [notConst] using this, rfl⟩
  · split
    · rename_i h
      have h19 : e.op = 19 := by simpa using h
      obtain ⟨x, y, hxy⟩ := two_args hg (by rw [h19]; decide)
      rw [hxy]
      simp only
      split
      · rename_i hz
        exact .inr (.inr (.inl ⟨h19, x, y, rfl, .inl ⟨hz, rfl⟩⟩))
      · split
        · rename_i hz
          exact .inr (.inr (.inl ⟨h19, x, y, rfl, .inr ⟨hz, rfl⟩⟩))
        · exact .inr (.inl rfl)
    · split
      · rename_i h
        have h20 : e.op = 20 := by simpa using h
        split
        · rename_i ht
          obtain ⟨x, y, hxy⟩ := two_args hg (by rw [h20]; decide)
          refine .inr (.inr (.inr (.inl ⟨h20, ⟨x, y, hxy, ?_⟩, rfl⟩)))
          rw [hxy] at ht
          simpa using ht
        · exact .inr (.inl rfl)
      · split
        · rename_i h
          have h21 : e.op = 21 := by simpa using h
          have hl := sound_len (good_open hg).1
          rw [h21, show arI 21 = 3 by decide] at hl
          match he : e.args, hl with
          | [x, y, z], _ =>
            simp only
            split
            · rename_i hx
              split
              · rename_i ht
                exact .inr (.inr (.inr (.inr ⟨h21, x, y, z, rfl, by simpa using hx, .inl ⟨ht, rfl⟩⟩)))
              · rename_i ht
                exact .inr (.inr (.inr (.inr ⟨h21, x, y, z, rfl, by simpa using hx, .inr ⟨by simpa using ht, rfl⟩⟩)))
            · exact .inr (.inl rfl)
          | [], hl => simp at hl
          | [_], hl => simp at hl
          | [_, _], hl => simp at hl
          | _ :: _ :: _ :: _ :: _, hl => simp at hl; omega
        · exact .inr (.inl rfl)
theorem const_args {x : Ex} (hg : goodE x) (h2 : x.op = 2) : x.args = [] := by
  have hl := sound_len (good_open hg).1
  rw [h2, show arI 2 = 0 by decide] at hl
  exact List.eq_nil_of_length_eq_zero (by omega)
theorem const_eval {x : Ex} (hg : goodE x) (h2 : x.op = 2) (row : List Val) : evalE row x = cleanV x.v := by
  rw [evalE_eq, const_args hg h2, evalL, h2]
  rfl
theorem con_eval (v : Val) (row : List Val) : evalE row (conE v) = cleanV v := by rw [evalE, evalL]; rfl
theorem con_good {v : Val} (h : (cleanV v).s.size ≤ 1000) : goodE (conE v) := by
  rw [goodE, goodL]
  refine ⟨?_, trivial⟩
  unfold soundE
  simp [Ex.op, Ex.n, Ex.v, Ex.args, arI, h]
theorem evalL_consts (row : List Val) : ∀ (l : List Ex), goodL l → (∀ x ∈ l, x.op = 2) → evalL row l = evalL [] l
  | [], _, _ => by rw [evalL, evalL]
  | x :: l, hg, h => by
    rw [goodL] at hg
    rw [evalL, evalL, evalL_consts row l hg.2 (fun y hy => h y (by simp [hy])), const_eval hg.1 (h x (by simp)) row, const_eval hg.1 (h x (by simp)) []]
theorem node_row {op n : Int} {v : Val} {row row' : List Val} {l : List Val} (h : 0 < l.length) : nodeV op n v row l = nodeV op n v row' l := by
  match l, h with
  | [_], _ => rfl
  | [_, _], _ => rfl
  | _ :: _ :: _ :: _, _ => rfl
theorem evalL_len (row : List Val) : ∀ l : List Ex, (evalL row l).length = l.length
  | [] => by rw [evalL]; rfl
  | e :: l => by rw [evalL, List.length_cons, evalL_len row l]; rfl
theorem zero_val {v : Val} (h : zeroB v = true) : v = .num 0 := by
  unfold zeroB at h
  simp only [Bool.and_eq_true, decide_eq_true_eq] at h
  obtain ⟨h1, h2, h3⟩ := h
  cases v
  simp only at h1 h2 h3
  subst h1 h2 h3
  rfl
theorem true_clean (v : Val) : trueB (cleanV v) = trueB v := by
  unfold cleanV
  split
  · rename_i h; unfold trueB; rw [h]; rfl
  · rename_i h
    have h' : (v.k == 1) = false := by simpa using h
    split
    · unfold trueB; rw [h']; rfl
    · unfold trueB; rw [h']; rfl
theorem simp_eval (e : Ex) (hg : goodE e) (row : List Val) : evalE row (simpE e) = evalE row e := by
  have hgl := (good_open hg).2
  rcases simp_cases e hg with ⟨h1, h2, h3⟩ | h | ⟨h19, x, y, hxy, h⟩ | ⟨h20, ⟨x, y, hxy, h⟩, h3⟩ | ⟨h21, x, y, z, hxy, hx2, h⟩
  · rw [h3, con_eval, (eval_clean [] e).1, evalE_eq [] e, evalE_eq row e, evalL_consts row e.args hgl h2]
    exact node_row (by rw [evalL_len]; exact h1)
  · rw [h]
  · have e1 : evalE row e = bothV 19 (evalE row x) (evalE row y) := by rw [evalE_eq, hxy, evalL, evalL, evalL, h19]; rfl
    have gx : goodE x := goodL_mem hgl (by rw [hxy]; simp)
    have gy : goodE y := goodL_mem hgl (by rw [hxy]; simp)
    rw [e1]
    rcases h with ⟨hz, h⟩ | ⟨hz, h⟩
    · unfold isZeroE at hz
      simp only [Bool.and_eq_true, beq_iff_eq] at hz
      rw [h, const_eval gx hz.1, zero_val hz.2]
      simp [bothV, falseB, cleanV, Val.num, truthV]
    · unfold isZeroE at hz
      simp only [Bool.and_eq_true, beq_iff_eq] at hz
      rw [h, const_eval gy hz.1, zero_val hz.2]
      simp [bothV, falseB, cleanV, Val.num, truthV]
  · have e1 : evalE row e = bothV 20 (evalE row x) (evalE row y) := by rw [evalE_eq, hxy, evalL, evalL, evalL, h20]; rfl
    have gx : goodE x := goodL_mem hgl (by rw [hxy]; simp)
    have gy : goodE y := goodL_mem hgl (by rw [hxy]; simp)
    rw [e1, h3, con_eval]
    have ht : trueB (evalE row x) = true ∨ trueB (evalE row y) = true := by
      rcases h with h | h <;> unfold isTrueE at h <;> simp only [Bool.and_eq_true, beq_iff_eq] at h
      · left; rw [const_eval gx h.1, true_clean]; exact h.2
      · right; rw [const_eval gy h.1, true_clean]; exact h.2
    unfold bothV
    rw [if_neg (by decide), if_pos rfl, if_pos (by rcases ht with h | h <;> simp [h])]
    rfl
  · have e1 : evalE row e = if trueB (evalE row x) then evalE row y else evalE row z := by rw [evalE_eq, hxy, evalL, evalL, evalL, evalL]; rfl
    have gx : goodE x := goodL_mem hgl (by rw [hxy]; simp)
    rw [e1, const_eval gx hx2, true_clean]
    rcases h with ⟨ht, h⟩ | ⟨ht, h⟩ <;> unfold isTrueE at ht <;> rw [hx2] at ht <;> simp only [beq_self_eq_true, Bool.true_and] at ht <;> rw [h, ht] <;> rfl
theorem simp_good (e : Ex) (hg : goodE e) : goodE (simpE e) := by
  have hgl := (good_open hg).2
  rcases simp_cases e hg with ⟨h1, h2, h3⟩ | h | ⟨h19, x, y, hxy, h⟩ | ⟨h20, ⟨x, y, hxy, h⟩, h3⟩ | ⟨h21, x, y, z, hxy, hx2, h⟩
  · rw [h3]
    exact con_good (Nat.le_trans (clean_size _) (eval_small e hg))
  · rw [h]; exact hg
  · rcases h with ⟨_, h⟩ | ⟨_, h⟩ <;> rw [h] <;> exact goodL_mem hgl (by rw [hxy]; simp)
  · rw [h3]; exact con_good (by decide)
  · rcases h with ⟨_, h⟩ | ⟨_, h⟩ <;> rw [h] <;> exact goodL_mem hgl (by rw [hxy]; simp)
theorem con_fin {v : Val} (h : VOk v) : (conE v).fin := by
  rw [Ex.fin, Ex.fins]
  exact ⟨⟨Nat.zero_le _, h.2, h.1, in64_zero⟩, trivial⟩
theorem simp_fin (e : Ex) (hg : goodE e) (hf : e.fin) : (simpE e).fin := by
  have hfl := (Ex.fin_open hf).2
  rcases simp_cases e hg with ⟨h1, h2, h3⟩ | h | ⟨h19, x, y, hxy, h⟩ | ⟨h20, ⟨x, y, hxy, h⟩, h3⟩ | ⟨h21, x, y, z, hxy, hx2, h⟩
  · rw [h3]
    exact con_fin (eval_ok (by simp) e hf)
  · rw [h]; exact hf
  · rcases h with ⟨_, h⟩ | ⟨_, h⟩ <;> rw [h] <;> exact Ex.fins_mem hfl (by rw [hxy]; simp)
  · rw [h3]; exact con_fin (vok_num ⟨by decide, by decide⟩)
  · rcases h with ⟨_, h⟩ | ⟨_, h⟩ <;> rw [h] <;> exact Ex.fins_mem hfl (by rw [hxy]; simp)
theorem high_mk (e : Ex) : e.high = Ex.highs e.args + 1 := by cases e; rw [Ex.high]; rfl
theorem high_mem : ∀ {l : List Ex} {x : Ex}, x ∈ l → x.high ≤ Ex.highs l
  | [], _, h => by cases h
  | e :: l, x, h => by
    rw [Ex.highs]
    rcases List.mem_cons.1 h with rfl | h
    · omega
    · have := high_mem h; omega
theorem simp_size (e : Ex) (hg : goodE e) : (simpE e).size ≤ e.size ∧ (simpE e).high ≤ e.high := by
  have c1 : ∀ v, (conE v).size ≤ e.size ∧ (conE v).high ≤ e.high := fun v => by
    rw [Ex.size_mk e, high_mk e]
    show (Ex.mk 2 0 v []).size ≤ _ ∧ (Ex.mk 2 0 v []).high ≤ _
    rw [Ex.size, Ex.high, Ex.sizes, Ex.highs]
    omega
  have c2 : ∀ x ∈ e.args, x.size ≤ e.size ∧ x.high ≤ e.high := fun x hx => by
    rw [Ex.size_mk e, high_mk e]
    have := Ex.size_mem hx
    have := high_mem hx
    omega
  rcases simp_cases e hg with ⟨h1, h2, h3⟩ | h | ⟨h19, x, y, hxy, h⟩ | ⟨h20, ⟨x, y, hxy, h⟩, h3⟩ | ⟨h21, x, y, z, hxy, hx2, h⟩
  · rw [h3]; exact c1 _
  · rw [h]; exact ⟨Nat.le_refl _, Nat.le_refl _⟩
  · rcases h with ⟨_, h⟩ | ⟨_, h⟩ <;> rw [h] <;> exact c2 _ (by rw [hxy]; simp)
  · rw [h3]; exact c1 _
  · rcases h with ⟨_, h⟩ | ⟨_, h⟩ <;> rw [h] <;> exact c2 _ (by rw [hxy]; simp)
end Go.Proofs.Ytfnacpkodfhfoac
