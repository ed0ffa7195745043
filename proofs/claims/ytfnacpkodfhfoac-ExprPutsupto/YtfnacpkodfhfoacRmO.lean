import Derived.Test.YtfnacpkodfhfoacRmN
import Derived.Test.YtfnacpkodfhfoacRmH
set_option linter.unusedSimpArgs false
set_option linter.unusedVariables false
namespace Go.Proofs.Ytfnacpkodfhfoac
open Go.RowKit Go.Sort

/-- A column as an expression. -/
def colE (n : Int) : Ex := .mk 1 n .null []
theorem col_built {n : Int} (h : 0 ≤ n) : builtE (colE n) = true := by
  refine built_of ?_ ?_ ?_
  · unfold colE
    rw [goodE, goodL]
    refine ⟨?_, trivial⟩
    simp [soundE, Ex.op, Ex.n, Ex.args, arI, h]
  · unfold colE; rw [Ex.size, Ex.sizes]; omega
  · unfold colE; rw [Ex.high, Ex.highs]; omega
theorem col_fin {n : Int} (h : In64 n) : (colE n).fin := by
  unfold colE
  rw [Ex.fin, Ex.fins]
  exact ⟨⟨Nat.zero_le _, Nat.zero_le _, in64_zero, h⟩, trivial⟩
theorem cols_fin {tt : List Int} (h : ∀ n ∈ tt, In64 n) : Ex.fins (tt.map colE) := Ex.fins_of _ fun x hx => by
  obtain ⟨n, hn, rfl⟩ := List.mem_map.1 hx
  exact col_fin (h n hn)
theorem cols_built {tt : List Int} (h : ∀ n ∈ tt, 0 ≤ n) : ∀ x ∈ tt.map colE, builtE x = true := fun x hx => by
  obtain ⟨n, hn, rfl⟩ := List.mem_map.1 hx
  exact col_built (h n hn)
/-- To put columns in is to move. -/
theorem put_mov (tt : List Int) (h0 : ∀ n ∈ tt, 0 ≤ n) : ∀ e, goodE e → usesB e tt.length = true → madeE (putG (tt.map colE)) e = madeE (movG tt) e := fold_ind _ fun e hg ih hu => by
  by_cases h1 : e.op = 1
  · have hn := col_nat hg h1
    have hlt := uses_col hu h1
    obtain ⟨n, hn2⟩ : ∃ n : Nat, e.n = n := ⟨e.n.toNat, by omega⟩
    obtain ⟨x, hx, hp⟩ := put_leaf (by_ := tt.map colE) h1 hn2 (by rw [List.length_map]; omega) (cols_built h0)
    rw [hp, madeE_eq, movG_col (show (nodeG (movG tt) e).op = 1 from h1)]
    rw [List.getElem?_map, getD_int (l := tt) (n := n) (by omega)] at hx
    simp only [Option.map_some, Option.some.injEq] at hx
    rw [← hx]
    have hnn : (nodeG (movG tt) e).n = e.n := by show (if e.op == 1 then e.n else 0) = e.n; rw [h1]; rfl
    have hv : (nodeG (movG tt) e).v = .null := by show (if e.op == 2 then cleanV e.v else .null) = .null; rw [h1]; rfl
    have ha : (nodeG (movG tt) e).args = [] := by show e.args.map (madeE (movG tt)) = []; rw [col_args hg h1]; rfl
    rw [hnn, hv, ha, hn2]
    unfold colE
    rw [copyE, copyL]
    rfl
  · rw [put_node h1, madeE_eq, movG_no (show ¬ (nodeG (movG tt) e).op = 1 from h1)]
    have hl : e.args.map (madeE (putG (tt.map colE))) = e.args.map (madeE (movG tt)) := List.map_congr_left fun x hx => by
      obtain ⟨i, hi⟩ := List.getElem?_of_mem hx
      exact (ih x hx).2 (uses_arg hu hi)
    rw [hl]
    rfl
theorem sizes_map2 (f : Ex → Ex) : ∀ l : List Ex, (∀ x ∈ l, (f x).size = x.size) → Ex.sizes (l.map f) = Ex.sizes l
  | [], _ => rfl
  | e :: l, h => by rw [List.map_cons, Ex.sizes, Ex.sizes, h e (by simp), sizes_map2 f l fun x hx => h x (by simp [hx])]
theorem highs_map2 (f : Ex → Ex) : ∀ l : List Ex, (∀ x ∈ l, (f x).high = x.high) → Ex.highs (l.map f) = Ex.highs l
  | [], _ => rfl
  | e :: l, h => by rw [List.map_cons, Ex.highs, Ex.highs, h e (by simp), highs_map2 f l fun x hx => h x (by simp [hx])]
theorem goods_map2 (f : Ex → Ex) : ∀ l : List Ex, (∀ x ∈ l, goodE (f x)) → goodL (l.map f)
  | [], _ => by rw [List.map_nil, goodL]; trivial
  | e :: l, h => by rw [List.map_cons, goodL]; exact ⟨h e (by simp), goods_map2 f l fun x hx => h x (by simp [hx])⟩
/-- What is moved is as large as it was, and as sound. -/
theorem mov_like (tt : List Int) (h0 : ∀ n ∈ tt, 0 ≤ n) : ∀ e, goodE e → usesB e tt.length = true → goodE (madeE (movG tt) e) ∧ (madeE (movG tt) e).size = e.size ∧ (madeE (movG tt) e).high = e.high := fold_ind _ fun e hg ih hu => by
  by_cases h1 : e.op = 1
  · have hn := col_nat hg h1
    have hlt := uses_col hu h1
    have ha := col_args hg h1
    obtain ⟨n, hn2⟩ : ∃ n : Nat, e.n = n := ⟨e.n.toNat, by omega⟩
    have hm : madeE (movG tt) e = colE (tt.getD n 0) := by
      rw [madeE_eq, movG_col (show (nodeG (movG tt) e).op = 1 from h1)]
      have hnn : (nodeG (movG tt) e).n = e.n := by show (if e.op == 1 then e.n else 0) = e.n; rw [h1]; rfl
      have hv : (nodeG (movG tt) e).v = .null := by show (if e.op == 2 then cleanV e.v else .null) = .null; rw [h1]; rfl
      have ha : (nodeG (movG tt) e).args = [] := by show e.args.map (madeE (movG tt)) = []; rw [ha]; rfl
      rw [hnn, hv, ha, hn2]
      rfl
    have hg2 := getD_int (l := tt) (n := n) (by omega)
    have hb := col_built (h0 _ (List.mem_of_getElem? hg2))
    rw [hm]
    refine ⟨built_good hb, ?_, ?_⟩
    · cases e with
      | mk op n' v l =>
        have : l = [] := ha
        subst this
        unfold colE
        rw [Ex.size, Ex.size]
    · cases e with
      | mk op n' v l =>
        have : l = [] := ha
        subst this
        unfold colE
        rw [Ex.high, Ex.high]
  · have hm : madeE (movG tt) e = .mk (needE e).op (needE e).n (needE e).v (e.args.map (madeE (movG tt))) := by
      rw [madeE_eq, movG_no (show ¬ (nodeG (movG tt) e).op = 1 from h1)]
      rfl
    have hx : ∀ x ∈ e.args, goodE (madeE (movG tt) x) ∧ (madeE (movG tt) x).size = x.size ∧ (madeE (movG tt) x).high = x.high := fun x hx => by
      obtain ⟨i, hi⟩ := List.getElem?_of_mem hx
      exact (ih x hx).2 (uses_arg hu hi)
    have hs : soundE (madeE (movG tt) e) = soundE e := by
      rw [← sound_copy e, hm, copyE_eq]
      clear hx hm ih hu
      cases e with
      | mk op n v l =>
        unfold soundE needE
        simp only [Ex.op, Ex.n, Ex.v, Ex.args, List.length_map]
        rfl
    rw [hm]
    refine ⟨?_, ?_, ?_⟩
    · rw [goodE]
      refine ⟨?_, goods_map2 _ _ fun x h => (hx x h).1⟩
      rw [← hm, hs]
      exact (good_open hg).1
    · cases e with
      | mk op n' v l =>
        rw [Ex.size, Ex.size]
        show Ex.sizes (l.map (madeE (movG tt))) + 1 = _
        rw [sizes_map2 (madeE (movG tt)) l fun x h => (hx x h).2.1]
    · cases e with
      | mk op n' v l =>
        rw [Ex.high, Ex.high]
        show Ex.highs (l.map (madeE (movG tt))) + 1 = _
        rw [highs_map2 (madeE (movG tt)) l fun x h => (hx x h).2.2]
theorem mov_built (tt : List Int) (h0 : ∀ n ∈ tt, 0 ≤ n) (e : Ex) (hb : builtE e = true) (hu : usesB e tt.length = true) : builtE (madeE (movG tt) e) = true := by
  obtain ⟨h1, h2, h3⟩ := mov_like tt h0 e (built_good hb) hu
  have := built_bounds hb
  exact built_of h1 (by omega) (by omega)
theorem NInv.step0 {lo : Nat} {v v' : Value} {L : List Nd} {q : Nd} {wr W1 w3 w4 : World} (h : NInv lo v L wr) (hb1 : Below wr.heap.size wr W1) (hb3 : Below W1.heap.size W1 w3) (hq : ∀ W', Ex.all W' q.2.1 q.1.args) (ob4 : Obj)
    (hO : OwnE w4 lo v' (L ++ [q])) (hg : (w3.alloc ob4).grownBy w4 v.ownBlock) (hv : v'.ownBlock = v.ownBlock ∨ v'.ownBlock = some (w3.alloc ob4).heap.size) : NInv lo v' (L ++ [q]) w4 := by
  have s1 := hb1.size
  have s3 := hb3.size
  have s4 : w3.heap.size < (w3.alloc ob4).heap.size := by simp [go_sem]
  have s5 := hg.size
  have hal : ∀ b, b < w3.heap.size → (w3.alloc ob4).heap[b]? = w3.heap[b]? := fun b hb => (below_alloc (Below.refl _ w3) ob4).block b hb
  refine ⟨hO, fun x hx W' hK => ?_⟩
  have hobv : ∀ b, b < w3.heap.size → b ∉ ob v → b ∉ ob v' := fun b hb hnb => by
    unfold ob at hnb ⊢
    rcases hv with hv | hv
    · rw [hv]; exact hnb
    · rw [hv]; simp; omega
  rcases List.mem_append.1 hx with hx | hx
  · refine h.2 x hx W' ⟨by have := hK.size; omega, fun b g1 g2 g3 => ?_⟩
    rw [hK.block b g1 (by omega) (hobv b (by omega) g3), hg.block b (by omega) (fun e => g3 (by unfold ob; rw [← e]; simp)), hal b (by omega), hb3.block b (by omega), hb1.block b g2]
  · rw [List.mem_singleton] at hx
    subst hx
    exact hq W'
theorem wpList_append_nodes {ops : Array Oper} {rest : List Oper} {o : Oper} {a : Act} {Q : Exit → Act → World → Prop} (w : World) (hgd : o.guard = none) (s x : Operand) (ho : o.op = .call { callee := .builtin .append, args := #[s, x], argTypes := #[24, 24] })
    (base base2 : Nat) (v : Value) (L1 L2 : List Nd) (hs : a.eval s = v) (hown : OwnE w base v L1) (g2 c2 : Nat) (hx : a.eval x = .slice (some ⟨g2, 0, none⟩) L2.length c2) (hown2 : OwnE w base2 (.slice (some ⟨g2, 0, none⟩) L2.length c2) L2)
    (hl : L1.length + L2.length ≤ 1000000000) (hbase : base ≤ w.heap.size)
    (h : ∀ v' w', OwnE w' base v' (L1 ++ L2) → w.grownBy w' v.ownBlock → (v'.ownBlock = v.ownBlock ∨ v'.ownBlock = some w.heap.size) → wpList Try.prog ops Q rest (a.put o.dst v') w') : wpList Try.prog ops Q (o :: rest) a w := by
  refine wpList_plain hgd fun K hK => ?_
  exact op_append_nodes s x ho base base2 v L1 L2 hs hown g2 c2 hx hown2 hl hbase fun v' w' h1 h2 h3 => hK _ _ (h v' w' h1 h2 h3)
end Go.Proofs.Ytfnacpkodfhfoac
