import Derived.Test.YtfnacpkodfhfoacFoB
set_option linter.unusedSimpArgs false
set_option linter.unusedVariables false
namespace Go.Proofs.Ytfnacpkodfhfoac
open Go.RowKit Go.Sort

/-- What the parts of a node are made to tells of the node. -/
theorem node_sound (e : Ex) (g : Ex → Ex) : soundE (nodeG g e) = soundE e := by
  have hl : (nodeG g e).args.length = e.args.length := by show (e.args.map (madeE g)).length = _; rw [List.length_map]
  have ho : (nodeG g e).op = e.op := rfl
  have hn : (nodeG g e).n = if e.op == 1 then e.n else 0 := rfl
  have hv : (nodeG g e).v = if e.op == 2 then cleanV e.v else .null := rfl
  unfold soundE
  rw [ho, hl, hn, hv]
  generalize e.op = op
  by_cases h1 : op = 1
  · subst h1; rfl
  · by_cases h2 : op = 2
    · subst h2
      simp [clean_clean]
    · have e1 : (op == 1) = false := by simpa using h1
      have e2 : (op == 2) = false := by simpa using h2
      rw [e1, e2]
      rfl
theorem goodL_of : ∀ (l : List Ex), (∀ x ∈ l, goodE x) → goodL l
  | [], _ => by rw [goodL]; trivial
  | e :: l, h => by rw [goodL]; exact ⟨h e (by simp), goodL_of l fun x hx => h x (by simp [hx])⟩
theorem good_mk (e : Ex) (hs : soundE e = true) (hl : goodL e.args) : goodE e := by
  cases e with
  | mk op n v l => rw [goodE]; exact ⟨hs, hl⟩
theorem fold_ind (Q : Ex → Prop) (h : ∀ e, goodE e → (∀ x ∈ e.args, goodE x ∧ Q x) → Q e) : ∀ e, goodE e → Q e := by
  suffices H : ∀ (k : Nat) (e : Ex), e.size ≤ k → goodE e → Q e from fun e hg => H e.size e (Nat.le_refl _) hg
  intro k
  induction k with
  | zero => intro e hs; rw [Ex.size_mk] at hs; omega
  | succ k ih =>
    intro e hs hg
    refine h e hg fun x hx => ?_
    have hgx := goodL_mem (good_open hg).2 hx
    refine ⟨hgx, ih x ?_ hgx⟩
    have := Ex.size_mem hx
    rw [Ex.size_mk] at hs
    omega
theorem node_good (e : Ex) (hg : goodE e) (h : ∀ x ∈ e.args, goodE (foldE x)) : goodE (nodeG simpE e) := by
  refine good_mk _ (by rw [node_sound]; exact (good_open hg).1) (goodL_of _ fun x hx => ?_)
  obtain ⟨y, hy, rfl⟩ := List.mem_map.1 (show x ∈ e.args.map (madeE simpE) from hx)
  exact h y hy
theorem fold_good : ∀ e, goodE e → goodE (foldE e) := fold_ind _ fun e hg ih => by
  show goodE (madeE simpE e)
  rw [madeE_eq]
  exact simp_good _ (node_good e hg fun x hx => (ih x hx).2)
theorem fold_node (e : Ex) (hg : goodE e) : goodE (nodeG simpE e) := node_good e hg fun x hx => fold_good x (goodL_mem (good_open hg).2 hx)
theorem evalL_map (row : List Val) (g : Ex → Ex) : ∀ (l : List Ex), (∀ x ∈ l, evalE row (g x) = evalE row x) → evalL row (l.map g) = evalL row l
  | [], _ => by rw [List.map_nil]
  | e :: l, h => by rw [List.map_cons, evalL, evalL, h e (by simp), evalL_map row g l fun x hx => h x (by simp [hx])]
theorem node_eval (row : List Val) (e : Ex) (hg : goodE e) (h : ∀ x ∈ e.args, evalE row (foldE x) = evalE row x) : evalE row (nodeG simpE e) = evalE row e := by
  rw [evalE_eq, evalE_eq row e]
  show nodeV e.op (if e.op == 1 then e.n else 0) (if e.op == 2 then cleanV e.v else .null) row (evalL row (e.args.map (madeE simpE))) = _
  rw [evalL_map row (madeE simpE) e.args h]
  cases ha : e.args with
  | nil =>
    rw [evalL]
    simp only [nodeV]
    rcases no_args hg ha with ⟨h1, _⟩ | h2
    · rw [h1]; rfl
    · rw [h2]; simp [clean_clean]
  | cons x l =>
    rw [evalL]
    cases l with
    | nil => rw [evalL]; rfl
    | cons y l =>
      rw [evalL]
      cases l with
      | nil => rw [evalL]; rfl
      | cons z l => rw [evalL]; rfl
theorem fold_eval (row : List Val) : ∀ e, goodE e → evalE row (foldE e) = evalE row e := fold_ind _ fun e hg ih => by
  show evalE row (madeE simpE e) = _
  rw [madeE_eq, simp_eval _ (fold_node e hg)]
  exact node_eval row e hg fun x hx => (ih x hx).2
theorem sizes_map (g : Ex → Ex) : ∀ (l : List Ex), (∀ x ∈ l, (g x).size ≤ x.size ∧ (g x).high ≤ x.high) → Ex.sizes (l.map g) ≤ Ex.sizes l ∧ Ex.highs (l.map g) ≤ Ex.highs l
  | [], _ => by rw [List.map_nil]; exact ⟨Nat.le_refl _, Nat.le_refl _⟩
  | e :: l, h => by
    have h1 := h e (by simp)
    have h2 := sizes_map g l fun x hx => h x (by simp [hx])
    rw [List.map_cons, Ex.sizes, Ex.sizes, Ex.highs, Ex.highs]
    omega
theorem fold_size : ∀ e, goodE e → (foldE e).size ≤ e.size ∧ (foldE e).high ≤ e.high := fold_ind _ fun e hg ih => by
  show (madeE simpE e).size ≤ _ ∧ (madeE simpE e).high ≤ _
  rw [madeE_eq]
  have h1 := simp_size _ (fold_node e hg)
  have h2 := sizes_map (madeE simpE) e.args fun x hx => (ih x hx).2
  have h3 : (nodeG simpE e).size = Ex.sizes (e.args.map (madeE simpE)) + 1 := by rw [Ex.size_mk]; rfl
  have h4 : (nodeG simpE e).high = Ex.highs (e.args.map (madeE simpE)) + 1 := by rw [high_mk]; rfl
  rw [Ex.size_mk e, high_mk e]
  omega
theorem fin_mk (e : Ex) (h : (e.args.length ≤ 140737488355328 ∧ e.v.s.size ≤ 140737488355328 ∧ In64 e.v.n ∧ In64 e.n)) (hl : Ex.fins e.args) : e.fin := by
  cases e with
  | mk op n v l => rw [Ex.fin]; exact ⟨h, hl⟩
theorem node_fin (e : Ex) (hf : e.fin) (h : ∀ x ∈ e.args, (foldE x).fin) : (nodeG simpE e).fin := by
  obtain ⟨⟨h1, h2, h3, h4⟩, _⟩ := Ex.fin_open hf
  refine fin_mk _ ⟨?_, ?_, ?_, ?_⟩ (Ex.fins_of _ fun x hx => ?_)
  · show (e.args.map (madeE simpE)).length ≤ _
    rw [List.length_map]; exact h1
  · show (if e.op == 2 then cleanV e.v else .null).s.size ≤ _
    split
    · exact Nat.le_trans (clean_size _) h2
    · exact Nat.zero_le _
  · show In64 (if e.op == 2 then cleanV e.v else .null).n
    split
    · exact clean_in _ h3
    · exact in64_zero
  · show In64 (if e.op == 1 then e.n else 0)
    split
    · exact h4
    · exact in64_zero
  · obtain ⟨y, hy, rfl⟩ := List.mem_map.1 (show x ∈ e.args.map (madeE simpE) from hx)
    exact h y hy
theorem fold_fin : ∀ e, goodE e → e.fin → (foldE e).fin := fold_ind _ fun e hg ih hf => by
  show (madeE simpE e).fin
  rw [madeE_eq]
  exact simp_fin _ (fold_node e hg) (node_fin e hf fun x hx => (ih x hx).2 (Ex.fins_mem (Ex.fin_open hf).2 hx))
/-- What is folded is folded. -/
theorem fold_again : ∀ e, goodE e → foldE (foldE e) = foldE e := fold_ind _ fun e hg ih => by
  have hN := fold_node e hg
  have hc : ∀ v, cleanV v = v → foldE (conE v) = conE v := fun v hv => by
    show madeE simpE (conE v) = _
    rw [madeE_eq]
    have : nodeG simpE (conE v) = conE v := by
      show Ex.mk 2 0 (if (2 : Int) == 2 then cleanV v else .null) [] = _
      rw [if_pos (by decide), hv]
    rw [this]
    rfl
  have hx : ∀ x ∈ (nodeG simpE e).args, foldE x = x := fun x hx => by
    obtain ⟨y, hy, rfl⟩ := List.mem_map.1 (show x ∈ e.args.map (madeE simpE) from hx)
    exact (ih y hy).2
  have hself : foldE (nodeG simpE e) = simpE (nodeG simpE e) := by
    show madeE simpE (nodeG simpE e) = _
    rw [madeE_eq]
    congr 1
    have ha : (nodeG simpE e).args.map (madeE simpE) = (nodeG simpE e).args := by
      conv => rhs; rw [← List.map_id (nodeG simpE e).args]
      exact List.map_congr_left fun x h => hx x h
    have hn : (if (nodeG simpE e).op == 1 then (nodeG simpE e).n else 0) = (nodeG simpE e).n := by
      show (if e.op == 1 then (if e.op == 1 then e.n else 0) else 0) = (if e.op == 1 then e.n else 0)
      split <;> rfl
    have hv : (if (nodeG simpE e).op == 2 then cleanV (nodeG simpE e).v else .null) = (nodeG simpE e).v := by
      show (if e.op == 2 then cleanV (if e.op == 2 then cleanV e.v else .null) else .null) = (if e.op == 2 then cleanV e.v else .null)
      by_cases h2 : (e.op == 2) = true
      · rw [if_pos h2, if_pos h2, clean_clean]
      · rw [if_neg h2, if_neg h2]
    show Ex.mk _ _ _ _ = _
    rw [ha, hn, hv]
    rfl
  have e1 : foldE e = simpE (nodeG simpE e) := madeE_eq simpE e
  rw [e1]
  rcases simp_cases (nodeG simpE e) hN with ⟨h1, h2, h3⟩ | h | ⟨h19, x, y, hxy, h⟩ | ⟨h20, ⟨x, y, hxy, h⟩, h3⟩ | ⟨h21, x, y, z, hxy, hx2, h⟩
  · rw [h3]
    exact hc _ (eval_clean [] _).1
  · rw [h]
    rw [hself, h]
  · rcases h with ⟨_, h⟩ | ⟨_, h⟩ <;> rw [h] <;> exact hx _ (by rw [hxy]; simp)
  · rw [h3]
    exact hc _ (cl_num 1).1
  · rcases h with ⟨_, h⟩ | ⟨_, h⟩ <;> rw [h] <;> exact hx _ (by rw [hxy]; simp)
/-- What Fold answers. -/
def foldB (e : Ex) : Ex := if builtE e then foldE e else copyT e
theorem fold_built {e : Ex} (h : builtE e = true) : builtE (foldE e) = true := by
  have hg := built_good h
  have h1 := built_bounds h
  have h2 := fold_size e hg
  exact built_of (fold_good e hg) (by omega) (by omega)
theorem copyT_built (e : Ex) : builtE (copyT e) = builtE e := by
  unfold copyT
  split
  · exact built_copy e
  · rfl
theorem copyT_fin2 {e : Ex} (h : e.fin) : (copyT e).fin := by
  unfold copyT
  split
  · exact copy_fin e h
  · exact h
theorem foldB_built (e : Ex) : builtE (foldB e) = builtE e := by
  unfold foldB
  cases h : builtE e with
  | true => rw [if_pos rfl]; exact fold_built h
  | false => rw [if_neg (by simp), copyT_built, h]
theorem foldB_fin {e : Ex} (hf : e.fin) : (foldB e).fin := by
  unfold foldB
  split
  · rename_i h; exact fold_fin e (built_good h) hf
  · exact copyT_fin2 hf
theorem foldB_eval (row : List Val) (e : Ex) : evalB row (foldB e) = evalB row e := by
  unfold evalB
  rw [foldB_built]
  split
  · rename_i h
    unfold foldB
    rw [if_pos h]
    exact fold_eval row e (built_good h)
  · rfl
/-- What Size answers. -/
def sizeB (e : Ex) : Int × Int := if builtE e then ((e.size : Int), (e.high : Int)) else (401, 41)
theorem foldB_size (e : Ex) : (sizeB (foldB e)).1 ≤ (sizeB e).1 ∧ (sizeB (foldB e)).2 ≤ (sizeB e).2 ∧ (sizeB (foldB (foldB e))).1 = (sizeB (foldB e)).1 := by
  have hb := foldB_built e
  have hb2 := foldB_built (foldB e)
  cases h : builtE e with
  | true =>
    have hg := built_good h
    have e1 : foldB e = foldE e := by unfold foldB; rw [if_pos h]
    have hf := fold_built h
    have e2 : foldB (foldE e) = foldE e := by
      unfold foldB
      rw [if_pos hf]
      exact fold_again e hg
    rw [e1, e2]
    have := fold_size e hg
    unfold sizeB
    rw [if_pos h, if_pos hf]
    simp only
    exact ⟨by omega, by omega, by trivial⟩
  | false =>
    rw [h] at hb
    rw [hb] at hb2
    have s0 : ∀ x, builtE x = false → sizeB x = (401, 41) := fun x hx => by unfold sizeB; rw [if_neg (by simp [hx])]
    rw [s0 e h, s0 _ hb, s0 _ hb2]
    exact ⟨Int.le_refl _, Int.le_refl _, rfl⟩
end Go.Proofs.Ytfnacpkodfhfoac
