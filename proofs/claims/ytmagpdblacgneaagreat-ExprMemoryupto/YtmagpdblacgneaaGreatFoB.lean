import Derived.Test.YtmagpdblacgneaaGreatPaG
set_option linter.unusedSimpArgs false
set_option linter.unusedVariables false
namespace Go.Proofs.YtmagpdblacgneaaGreat
open Go.RowKit Go.Sort

abbrev conE (v : Val) : Ex := .mk 2 0 v []
def notConst (e : Ex) : Bool := e.op != 2
def zeroB (v : Val) : Bool := decide (v.k = 1) && (decide (v.n = 0) && decide (v.s = ⟨#[]⟩))
def isZeroE (e : Ex) : Bool := (e.op == 2) && zeroB e.v
def isTrueE (e : Ex) : Bool := (e.op == 2) && trueB e.v
/-- A node whose parts are folded, folded. -/
def simpE (e : Ex) : Ex :=
  if decide (0 < e.args.length) && !(e.args.any notConst) then conE (evalE [] e)
  else if e.op == 19 then (match e.args with
    | [x, y] => if isZeroE x then x else if isZeroE y then y else e
    | _ => e)
  else if e.op == 20 then (if e.args.any isTrueE then conE (.num 1) else e)
  else if e.op == 21 then (match e.args with
    | [x, y, z] => if x.op == 2 then (if isTrueE x then y else z) else e
    | _ => e)
  else e
abbrev foldE : Ex → Ex := madeE simpE
/-- What becomes of a node. -/
theorem simp_cases (e : Ex) (hg : goodE e) : (0 < e.args.length ∧ (∀ x ∈ e.args, x.op = 2) ∧ simpE e = conE (evalE [] e)) ∨
    (simpE e = e) ∨
    (e.op = 19 ∧ ∃ x y, e.args = [x, y] ∧ ((isZeroE x = true ∧ simpE e = x) ∨ (isZeroE y = true ∧ simpE e = y))) ∨
    (e.op = 20 ∧ (∃ x y, e.args = [x, y] ∧ (isTrueE x = true ∨ isTrueE y = true)) ∧ simpE e = conE (.num 1)) ∨
    (e.op = 21 ∧ ∃ x y z, e.args = [x, y, z] ∧ x.op = 2 ∧ ((isTrueE x = true ∧ simpE e = y) ∨ (isTrueE x = false ∧ simpE e = z))) := by
  unfold simpE
  split
  · rename_i h
    simp only [Bool.and_eq_true, decide_eq_true_eq, Bool.not_eq_true', List.any_eq_false] at h
    exact .inl ⟨h.1, fun x hx => by have := h.2 x hx; simpa [notConst] using this, rfl⟩
  · split
    · rename_i h
      have h19 : e.op = 19 := by simpa using h
      obtain ⟨x, y, hxy⟩ := two_args hg (by rw [h19]; decide)
      rw [hxy]
      simp only
      split
      · rename_i hz
        exact .inr (.inr (.inl ⟨h19, x, y, rfl, .inl ⟨hz, rfl⟩⟩))
      · split
        · rename_i hz
          exact .inr (.inr (.inl ⟨h19, x, y, rfl, .inr ⟨hz, rfl⟩⟩))
        · exact .inr (.inl rfl)
    · split
      · rename_i h
        have h20 : e.op = 20 := by simpa using h
        split
        · rename_i ht
          obtain ⟨x, y, hxy⟩ := two_args hg (by rw [h20]; decide)
          refine .inr (.inr (.inr (.inl ⟨h20, ⟨x, y, hxy, ?_⟩, rfl⟩)))
          rw [hxy] at ht
          simpa using ht
        · exact .inr (.inl rfl)
      · split
        · rename_i h
          have h21 : e.op = 21 := by simpa using h
          have hl := sound_len (good_open hg).1
          rw [h21, show arI 21 = 3 by decide] at hl
          match he : e.args, hl with
          | [x, y, z], _ =>
            simp only
            split
            · rename_i hx
              split
              · rename_i ht
                exact .inr (.inr (.inr (.inr ⟨h21, x, y, z, rfl, by simpa using hx, .inl ⟨ht, rfl⟩⟩)))
              · rename_i ht
                exact .inr (.inr (.inr (.inr ⟨h21, x, y, z, rfl, by simpa using hx, .inr ⟨by simpa using ht, rfl⟩⟩)))
            · exact .inr (.inl rfl)
          | [], hl => simp at hl
          | [_], hl => simp at hl
          | [_, _], hl => simp at hl
          | _ :: _ :: _ :: _ :: _, hl => simp at hl; omega
        · exact .inr (.inl rfl)
theorem const_args {x : Ex} (hg : goodE x) (h2 : x.op = 2) : x.args = [] := by
  have hl := sound_len (good_open hg).1
  rw [h2, show arI 2 = 0 by decide] at hl
  exact List.eq_nil_of_length_eq_zero (by omega)
theorem const_eval {x : Ex} (hg : goodE x) (h2 : x.op = 2) (row : List Val) : evalE row x = cleanV x.v := by
  rw [evalE_eq, const_args hg h2, evalL, h2]
  rfl
theorem con_eval (v : Val) (row : List Val) : evalE row (conE v) = cleanV v := by rw [evalE, evalL]; rfl
theorem con_good {v : Val} (h : (cleanV v).s.size ≤ 1000) : goodE (conE v) := by
  rw [goodE, goodL]
  refine ⟨?_, trivial⟩
  unfold soundE
  simp [Ex.op, Ex.n, Ex.v, Ex.args, arI, h]
theorem evalL_consts (row : List Val) : ∀ (l : List Ex), goodL l → (∀ x ∈ l, x.op = 2) → evalL row l = evalL [] l
  | [], _, _ => by rw [evalL, evalL]
  | x :: l, hg, h => by
    rw [goodL] at hg
    rw [evalL, evalL, evalL_consts row l hg.2 (fun y hy => h y (by simp [hy])), const_eval hg.1 (h x (by simp)) row, const_eval hg.1 (h x (by simp)) []]
theorem node_row {op n : Int} {v : Val} {row row' : List Val} {l : List Val} (h : 0 < l.length) : nodeV op n v row l = nodeV op n v row' l := by
  match l, h with
  | [_], _ => rfl
  | [_, _], _ => rfl
  | _ :: _ :: _ :: _, _ => rfl
theorem evalL_len (row : List Val) : ∀ l : List Ex, (evalL row l).length = l.length
  | [] => by rw [evalL]; rfl
  | e :: l => by rw [evalL, List.length_cons, evalL_len row l]; rfl
theorem zero_val {v : Val} (h : zeroB v = true) : v = .num 0 := by
  unfold zeroB at h
  simp only [Bool.and_eq_true, decide_eq_true_eq] at h
  obtain ⟨h1, h2, h3⟩ := h
  cases v
  simp only at h1 h2 h3
  subst h1 h2 h3
  rfl
theorem true_clean (v : Val) : trueB (cleanV v) = trueB v := by
  unfold cleanV
  split
  · rename_i h; unfold trueB; rw [h]; rfl
  · rename_i h
    have h' : (v.k == 1) = false := by simpa using h
    split
    · unfold trueB; rw [h']; rfl
    · unfold trueB; rw [h']; rfl
theorem simp_eval (e : Ex) (hg : goodE e) (row : List Val) : evalE row (simpE e) = evalE row e := by
  have hgl := (good_open hg).2
  rcases simp_cases e hg with ⟨h1, h2, h3⟩ | h | ⟨h19, x, y, hxy, h⟩ | ⟨h20, ⟨x, y, hxy, h⟩, h3⟩ | ⟨h21, x, y, z, hxy, hx2, h⟩
  · rw [h3, con_eval, (eval_clean [] e).1, evalE_eq [] e, evalE_eq row e, evalL_consts row e.args hgl h2]
    exact node_row (by rw [evalL_len]; exact h1)
  · rw [h]
  · have e1 : evalE row e = bothV 19 (evalE row x) (evalE row y) := by rw [evalE_eq, hxy, evalL, evalL, evalL, h19]; rfl
    have gx : goodE x := goodL_mem hgl (by rw [hxy]; simp)
    have gy : goodE y := goodL_mem hgl (by rw [hxy]; simp)
    rw [e1]
    rcases h with ⟨hz, h⟩ | ⟨hz, h⟩
    · unfold isZeroE at hz
      simp only [Bool.and_eq_true, beq_iff_eq] at hz
      rw [h, const_eval gx hz.1, zero_val hz.2]
      simp [bothV, falseB, cleanV, Val.num, truthV]
    · unfold isZeroE at hz
      simp only [Bool.and_eq_true, beq_iff_eq] at hz
      rw [h, const_eval gy hz.1, zero_val hz.2]
      simp [bothV, falseB, cleanV, Val.num, truthV]
  · have e1 : evalE row e = bothV 20 (evalE row x) (evalE row y) := by rw [evalE_eq, hxy, evalL, evalL, evalL, h20]; rfl
    have gx : goodE x := goodL_mem hgl (by rw [hxy]; simp)
    have gy : goodE y := goodL_mem hgl (by rw [hxy]; simp)
    rw [e1, h3, con_eval]
    have ht : trueB (evalE row x) = true ∨ trueB (evalE row y) = true := by
      rcases h with h | h <;> unfold isTrueE at h <;> simp only [Bool.and_eq_true, beq_iff_eq] at h
      · left; rw [const_eval gx h.1, true_clean]; exact h.2
      · right; rw [const_eval gy h.1, true_clean]; exact h.2
    unfold bothV
    rw [if_neg (by decide), if_pos rfl, if_pos (by rcases ht with h | h <;> simp [h])]
    rfl
  · have e1 : evalE row e = if trueB (evalE row x) then evalE row y else evalE row z := by rw [evalE_eq, hxy, evalL, evalL, evalL, evalL]; rfl
    have gx : goodE x := goodL_mem hgl (by rw [hxy]; simp)
    rw [e1, const_eval gx hx2, true_clean]
    rcases h with ⟨ht, h⟩ | ⟨ht, h⟩ <;> unfold isTrueE at ht <;> rw [hx2] at ht <;> simp only [beq_self_eq_true, Bool.true_and] at ht <;> rw [h, ht] <;> rfl
theorem simp_good (e : Ex) (hg : goodE e) : goodE (simpE e) := by
  have hgl := (good_open hg).2
  rcases simp_cases e hg with ⟨h1, h2, h3⟩ | h | ⟨h19, x, y, hxy, h⟩ | ⟨h20, ⟨x, y, hxy, h⟩, h3⟩ | ⟨h21, x, y, z, hxy, hx2, h⟩
  · rw [h3]
    exact con_good (Nat.le_trans (clean_size _) (eval_small e hg))
  · rw [h]; exact hg
  · rcases h with ⟨_, h⟩ | ⟨_, h⟩ <;> rw [h] <;> exact goodL_mem hgl (by rw [hxy]; simp)
  · rw [h3]; exact con_good (by decide)
  · rcases h with ⟨_, h⟩ | ⟨_, h⟩ <;> rw [h] <;> exact goodL_mem hgl (by rw [hxy]; simp)
theorem con_fin {v : Val} (h : VOk v) : (conE v).fin := by
  rw [Ex.fin, Ex.fins]
  exact ⟨⟨Nat.zero_le _, h.2, h.1, in64_zero⟩, trivial⟩
theorem simp_fin (e : Ex) (hg : goodE e) (hf : e.fin) : (simpE e).fin := by
  have hfl := (Ex.fin_open hf).2
  rcases simp_cases e hg with ⟨h1, h2, h3⟩ | h | ⟨h19, x, y, hxy, h⟩ | ⟨h20, ⟨x, y, hxy, h⟩, h3⟩ | ⟨h21, x, y, z, hxy, hx2, h⟩
  · rw [h3]
    exact con_fin (eval_ok (by simp) e hf)
  · rw [h]; exact hf
  · rcases h with ⟨_, h⟩ | ⟨_, h⟩ <;> rw [h] <;> exact Ex.fins_mem hfl (by rw [hxy]; simp)
  · rw [h3]; exact con_fin (vok_num ⟨by decide, by decide⟩)
  · rcases h with ⟨_, h⟩ | ⟨_, h⟩ <;> rw [h] <;> exact Ex.fins_mem hfl (by rw [hxy]; simp)
theorem high_mk (e : Ex) : e.high = Ex.highs e.args + 1 := by cases e; rw [Ex.high]; rfl
theorem high_mem : ∀ {l : List Ex} {x : Ex}, x ∈ l → x.high ≤ Ex.highs l
  | [], _, h => by cases h
  | e :: l, x, h => by
    rw [Ex.highs]
    rcases List.mem_cons.1 h with rfl | h
    · omega
    · have := high_mem h; omega
theorem simp_size (e : Ex) (hg : goodE e) : (simpE e).size ≤ e.size ∧ (simpE e).high ≤ e.high := by
  have c1 : ∀ v, (conE v).size ≤ e.size ∧ (conE v).high ≤ e.high := fun v => by
    rw [Ex.size_mk e, high_mk e]
    show (Ex.mk 2 0 v []).size ≤ _ ∧ (Ex.mk 2 0 v []).high ≤ _
    rw [Ex.size, Ex.high, Ex.sizes, Ex.highs]
    omega
  have c2 : ∀ x ∈ e.args, x.size ≤ e.size ∧ x.high ≤ e.high := fun x hx => by
    rw [Ex.size_mk e, high_mk e]
    have := Ex.size_mem hx
    have := high_mem hx
    omega
  rcases simp_cases e hg with ⟨h1, h2, h3⟩ | h | ⟨h19, x, y, hxy, h⟩ | ⟨h20, ⟨x, y, hxy, h⟩, h3⟩ | ⟨h21, x, y, z, hxy, hx2, h⟩
  · rw [h3]; exact c1 _
  · rw [h]; exact ⟨Nat.le_refl _, Nat.le_refl _⟩
  · rcases h with ⟨_, h⟩ | ⟨_, h⟩ <;> rw [h] <;> exact c2 _ (by rw [hxy]; simp)
  · rw [h3]; exact c1 _
  · rcases h with ⟨_, h⟩ | ⟨_, h⟩ <;> rw [h] <;> exact c2 _ (by rw [hxy]; simp)
end Go.Proofs.YtmagpdblacgneaaGreat
set_option linter.unusedSimpArgs false
set_option linter.unusedVariables false
namespace Go.Proofs.YtmagpdblacgneaaGreat
open Go.RowKit Go.Sort

/-- What the parts of a node are made to tells of the node. -/
theorem node_sound (e : Ex) (g : Ex → Ex) : soundE (nodeG g e) = soundE e := by
  have hl : (nodeG g e).args.length = e.args.length := by show (e.args.map (madeE g)).length = _; rw [List.length_map]
  have ho : (nodeG g e).op = e.op := rfl
  have hn : (nodeG g e).n = if e.op == 1 then e.n else 0 := rfl
  have hv : (nodeG g e).v = if e.op == 2 then cleanV e.v else .null := rfl
  unfold soundE
  rw [ho, hl, hn, hv]
  generalize e.op = op
  by_cases h1 : op = 1
  · subst h1; rfl
  · by_cases h2 : op = 2
    · subst h2
      simp [clean_clean]
    · have e1 : (op == 1) = false := by simpa using h1
      have e2 : (op == 2) = false := by simpa using h2
      rw [e1, e2]
      rfl
theorem goodL_of : ∀ (l : List Ex), (∀ x ∈ l, goodE x) → goodL l
  | [], _ => by rw [goodL]; trivial
  | e :: l, h => by rw [goodL]; exact ⟨h e (by simp), goodL_of l fun x hx => h x (by simp [hx])⟩
theorem good_mk (e : Ex) (hs : soundE e = true) (hl : goodL e.args) : goodE e := by
  cases e with
  | mk op n v l => rw [goodE]; exact ⟨hs, hl⟩
theorem fold_ind (Q : Ex → Prop) (h : ∀ e, goodE e → (∀ x ∈ e.args, goodE x ∧ Q x) → Q e) : ∀ e, goodE e → Q e := by
  suffices H : ∀ (k : Nat) (e : Ex), e.size ≤ k → goodE e → Q e from fun e hg => H e.size e (Nat.le_refl _) hg
  intro k
  induction k with
  | zero => intro e hs; rw [Ex.size_mk] at hs; omega
  | succ k ih =>
    intro e hs hg
    refine h e hg fun x hx => ?_
    have hgx := goodL_mem (good_open hg).2 hx
    refine ⟨hgx, ih x ?_ hgx⟩
    have := Ex.size_mem hx
    rw [Ex.size_mk] at hs
    omega
theorem node_good (e : Ex) (hg : goodE e) (h : ∀ x ∈ e.args, goodE (foldE x)) : goodE (nodeG simpE e) := by
  refine good_mk _ (by rw [node_sound]; exact (good_open hg).1) (goodL_of _ fun x hx => ?_)
  obtain ⟨y, hy, rfl⟩ := List.mem_map.1 (show x ∈ e.args.map (madeE simpE) from hx)
  exact h y hy
theorem fold_good : ∀ e, goodE e → goodE (foldE e) := fold_ind _ fun e hg ih => by
  show goodE (madeE simpE e)
  rw [madeE_eq]
  exact simp_good _ (node_good e hg fun x hx => (ih x hx).2)
theorem fold_node (e : Ex) (hg : goodE e) : goodE (nodeG simpE e) := node_good e hg fun x hx => fold_good x (goodL_mem (good_open hg).2 hx)
theorem evalL_map (row : List Val) (g : Ex → Ex) : ∀ (l : List Ex), (∀ x ∈ l, evalE row (g x) = evalE row x) → evalL row (l.map g) = evalL row l
  | [], _ => by rw [List.map_nil]
  | e :: l, h => by rw [List.map_cons, evalL, evalL, h e (by simp), evalL_map row g l fun x hx => h x (by simp [hx])]
theorem node_eval (row : List Val) (e : Ex) (hg : goodE e) (h : ∀ x ∈ e.args, evalE row (foldE x) = evalE row x) : evalE row (nodeG simpE e) = evalE row e := by
  rw [evalE_eq, evalE_eq row e]
  show nodeV e.op (if e.op == 1 then e.n else 0) (if e.op == 2 then cleanV e.v else .null) row (evalL row (e.args.map (madeE simpE))) = _
  rw [evalL_map row (madeE simpE) e.args h]
  cases ha : e.args with
  | nil =>
    rw [evalL]
    simp only [nodeV]
    rcases no_args hg ha with ⟨h1, _⟩ | h2
    · rw [h1]; rfl
    · rw [h2]; simp [clean_clean]
  | cons x l =>
    rw [evalL]
    cases l with
    | nil => rw [evalL]; rfl
    | cons y l =>
      rw [evalL]
      cases l with
      | nil => rw [evalL]; rfl
      | cons z l => rw [evalL]; rfl
theorem fold_eval (row : List Val) : ∀ e, goodE e → evalE row (foldE e) = evalE row e := fold_ind _ fun e hg ih => by
  show evalE row (madeE simpE e) = _
  rw [madeE_eq, simp_eval _ (fold_node e hg)]
  exact node_eval row e hg fun x hx => (ih x hx).2
theorem sizes_map (g : Ex → Ex) : ∀ (l : List Ex), (∀ x ∈ l, (g x).size ≤ x.size ∧ (g x).high ≤ x.high) → Ex.sizes (l.map g) ≤ Ex.sizes l ∧ Ex.highs (l.map g) ≤ Ex.highs l
  | [], _ => by rw [List.map_nil]; exact ⟨Nat.le_refl _, Nat.le_refl _⟩
  | e :: l, h => by
    have h1 := h e (by simp)
    have h2 := sizes_map g l fun x hx => h x (by simp [hx])
    rw [List.map_cons, Ex.sizes, Ex.sizes, Ex.highs, Ex.highs]
    omega
theorem fold_size : ∀ e, goodE e → (foldE e).size ≤ e.size ∧ (foldE e).high ≤ e.high := fold_ind _ fun e hg ih => by
  show (madeE simpE e).size ≤ _ ∧ (madeE simpE e).high ≤ _
  rw [madeE_eq]
  have h1 := simp_size _ (fold_node e hg)
  have h2 := sizes_map (madeE simpE) e.args fun x hx => (ih x hx).2
  have h3 : (nodeG simpE e).size = Ex.sizes (e.args.map (madeE simpE)) + 1 := by rw [Ex.size_mk]; rfl
  have h4 : (nodeG simpE e).high = Ex.highs (e.args.map (madeE simpE)) + 1 := by rw [high_mk]; rfl
  rw [Ex.size_mk e, high_mk e]
  omega
theorem fin_mk (e : Ex) (h : (e.args.length ≤ 140737488355328 ∧ e.v.s.size ≤ 140737488355328 ∧ In64 e.v.n ∧ In64 e.n)) (hl : Ex.fins e.args) : e.fin := by
  cases e with
  | mk op n v l => rw [Ex.fin]; exact ⟨h, hl⟩
theorem node_fin (e : Ex) (hf : e.fin) (h : ∀ x ∈ e.args, (foldE x).fin) : (nodeG simpE e).fin := by
  obtain ⟨⟨h1, h2, h3, h4⟩, _⟩ := Ex.fin_open hf
  refine fin_mk _ ⟨?_, ?_, ?_, ?_⟩ (Ex.fins_of _ fun x hx => ?_)
  · show (e.args.map (madeE simpE)).length ≤ _
    rw [List.length_map]; exact h1
  · show (if e.op == 2 then cleanV e.v else .null).s.size ≤ _
    split
    · exact Nat.le_trans (clean_size _) h2
    · exact Nat.zero_le _
  · show In64 (if e.op == 2 then cleanV e.v else .null).n
    split
    · exact clean_in _ h3
    · exact in64_zero
  · show In64 (if e.op == 1 then e.n else 0)
    split
    · exact h4
    · exact in64_zero
  · obtain ⟨y, hy, rfl⟩ := List.mem_map.1 (show x ∈ e.args.map (madeE simpE) from hx)
    exact h y hy
theorem fold_fin : ∀ e, goodE e → e.fin → (foldE e).fin := fold_ind _ fun e hg ih hf => by
  show (madeE simpE e).fin
  rw [madeE_eq]
  exact simp_fin _ (fold_node e hg) (node_fin e hf fun x hx => (ih x hx).2 (Ex.fins_mem (Ex.fin_open hf).2 hx))
/-- What is folded is folded. -/
theorem fold_again : ∀ e, goodE e → foldE (foldE e) = foldE e := fold_ind _ fun e hg ih => by
  have hN := fold_node e hg
  have hc : ∀ v, cleanV v = v → foldE (conE v) = conE v := fun v hv => by
    show madeE simpE (conE v) = _
    rw [madeE_eq]
    have : nodeG simpE (conE v) = conE v := by
      show Ex.mk 2 0 (if (2 : Int) == 2 then cleanV v else .null) [] = _
      rw [if_pos (by decide), hv]
    rw [this]
    rfl
  have hx : ∀ x ∈ (nodeG simpE e).args, foldE x = x := fun x hx => by
    obtain ⟨y, hy, rfl⟩ := List.mem_map.1 (show x ∈ e.args.map (madeE simpE) from hx)
    exact (ih y hy).2
  have hself : foldE (nodeG simpE e) = simpE (nodeG simpE e) := by
    show madeE simpE (nodeG simpE e) = _
    rw [madeE_eq]
    congr 1
    have ha : (nodeG simpE e).args.map (madeE simpE) = (nodeG simpE e).args := by
      conv => rhs; rw [← List.map_id (nodeG simpE e).args]
      exact List.map_congr_left fun x h => hx x h
    have hn : (if (nodeG simpE e).op == 1 then (nodeG simpE e).n else 0) = (nodeG simpE e).n := by
      show (if e.op == 1 then (if e.op == 1 then e.n else 0) else 0) = (if e.op == 1 then e.n else 0)
      split <;> rfl
    have hv : (if (nodeG simpE e).op == 2 then cleanV (nodeG simpE e).v else .null) = (nodeG simpE e).v := by
      show (if e.op == 2 then cleanV (if e.op == 2 then cleanV e.v else .null) else .null) = (if e.op == 2 then cleanV e.v else .null)
      by_cases h2 : (e.op == 2) = true
      · rw [if_pos h2, if_pos h2, clean_clean]
      · rw [if_neg h2, if_neg h2]
    show Ex.mk _ _ _ _ = _
    rw [ha, hn, hv]
    rfl
  have e1 : foldE e = simpE (nodeG simpE e) := madeE_eq simpE e
  rw [e1]
  rcases simp_cases (nodeG simpE e) hN with ⟨h1, h2, h3⟩ | h | ⟨h19, x, y, hxy, h⟩ | ⟨h20, ⟨x, y, hxy, h⟩, h3⟩ | ⟨h21, x, y, z, hxy, hx2, h⟩
  · rw [h3]
    exact hc _ (eval_clean [] _).1
  · rw [h]
    rw [hself, h]
  · rcases h with ⟨_, h⟩ | ⟨_, h⟩ <;> rw [h] <;> exact hx _ (by rw [hxy]; simp)
  · rw [h3]
    exact hc _ (cl_num 1).1
  · rcases h with ⟨_, h⟩ | ⟨_, h⟩ <;> rw [h] <;> exact hx _ (by rw [hxy]; simp)
/-- What Fold answers. -/
def foldB (e : Ex) : Ex := if builtE e then foldE e else copyT e
theorem fold_built {e : Ex} (h : builtE e = true) : builtE (foldE e) = true := by
  have hg := built_good h
  have h1 := built_bounds h
  have h2 := fold_size e hg
  exact built_of (fold_good e hg) (by omega) (by omega)
theorem copyT_built (e : Ex) : builtE (copyT e) = builtE e := by
  unfold copyT
  split
  · exact built_copy e
  · rfl
theorem copyT_fin2 {e : Ex} (h : e.fin) : (copyT e).fin := by
  unfold copyT
  split
  · exact copy_fin e h
  · exact h
theorem foldB_built (e : Ex) : builtE (foldB e) = builtE e := by
  unfold foldB
  cases h : builtE e with
  | true => rw [if_pos rfl]; exact fold_built h
  | false => rw [if_neg (by simp), copyT_built, h]
theorem foldB_fin {e : Ex} (hf : e.fin) : (foldB e).fin := by
  unfold foldB
  split
  · rename_i h; exact fold_fin e (built_good h) hf
  · exact copyT_fin2 hf
theorem foldB_eval (row : List Val) (e : Ex) : evalB row (foldB e) = evalB row e := by
  unfold evalB
  rw [foldB_built]
  split
  · rename_i h
    unfold foldB
    rw [if_pos h]
    exact fold_eval row e (built_good h)
  · rfl
/-- What Size answers. -/
def sizeB (e : Ex) : Int × Int := if builtE e then ((e.size : Int), (e.high : Int)) else (401, 41)
theorem foldB_size (e : Ex) : (sizeB (foldB e)).1 ≤ (sizeB e).1 ∧ (sizeB (foldB e)).2 ≤ (sizeB e).2 ∧ (sizeB (foldB (foldB e))).1 = (sizeB (foldB e)).1 := by
  have hb := foldB_built e
  have hb2 := foldB_built (foldB e)
  cases h : builtE e with
  | true =>
    have hg := built_good h
    have e1 : foldB e = foldE e := by unfold foldB; rw [if_pos h]
    have hf := fold_built h
    have e2 : foldB (foldE e) = foldE e := by
      unfold foldB
      rw [if_pos hf]
      exact fold_again e hg
    rw [e1, e2]
    have := fold_size e hg
    unfold sizeB
    rw [if_pos h, if_pos hf]
    simp only
    exact ⟨by omega, by omega, by trivial⟩
  | false =>
    rw [h] at hb
    rw [hb] at hb2
    have s0 : ∀ x, builtE x = false → sizeB x = (401, 41) := fun x hx => by unfold sizeB; rw [if_neg (by simp [hx])]
    rw [s0 e h, s0 _ hb, s0 _ hb2]
    exact ⟨Int.le_refl _, Int.le_refl _, rfl⟩
end Go.Proofs.YtmagpdblacgneaaGreat
