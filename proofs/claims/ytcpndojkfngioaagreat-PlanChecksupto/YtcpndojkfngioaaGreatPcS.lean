import Derived.Test.YtcpndojkfngioaaGreatRmA
import Derived.Test.YtcpndojkfngioaaGreatPaB
import Derived.Maps.AppendAt
import Derived.Laws.AppendOwnNone
set_option linter.unusedSimpArgs false
set_option linter.unusedVariables false
set_option maxRecDepth 100000
namespace Go.Proofs.YtcpndojkfngioaaGreat
open Go.RowKit Go.Sort

mutual
theorem meas_anyR (p : Ex → Bool) : ∀ (e : Ex) (N H : Int) {c h : Int}, measE p e N H = (c, h, true) → measE allE e N H = (c, h, true)
  | .mk op n v l, N, H, c, h, he => by
    rw [measE] at he ⊢
    split at he
    · injection he with _ he; injection he with _ he; cases he
    · rename_i hc
      simp only [Bool.or_eq_true, decide_eq_true_eq, not_or, Bool.not_eq_true'] at hc
      rw [if_neg (by simp only [Bool.or_eq_true, decide_eq_true_eq, not_or, Bool.not_eq_true']; exact ⟨hc.1, by simp [allE]⟩)]
      cases hm : measL p l N H 1 0 with
      | none => rw [hm] at he; simp only at he; injection he with _ he; injection he with _ he; cases he
      | some q =>
        rw [hm] at he
        rw [measL_anyR p l N H 1 0 (by rw [hm])]
        exact he
theorem measL_anyR (p : Ex → Bool) : ∀ (l : List Ex) (N H c h : Int) {q : Int × Int}, measL p l N H c h = some q → measL allE l N H c h = some q
  | [], N, H, c, h, q, he => by rw [measL] at he ⊢; exact he
  | e :: l, N, H, c, h, q, he => by
    rw [measL] at he ⊢
    split at he
    · rename_i hok
      obtain ⟨c2, h2', ok, hm⟩ : ∃ c2 h2 ok, measE p e (N - c) (H - 1) = (c2, h2, ok) := ⟨_, _, _, rfl⟩
      rw [hm] at he hok
      simp only at he hok
      subst hok
      rw [meas_anyR p e (N - c) (H - 1) hm]
      simp only [if_true]
      exact measL_anyR p l N H _ _ he
    · cases he
end
theorem built_endsR {e : Ex} (h : builtE e = true) : (measE allE e 33554432 131072).2.2 = true := by
  obtain ⟨c, h2, ok, hm⟩ : ∃ c h2 ok, measE soundE e 400 40 = (c, h2, ok) := ⟨_, _, _, rfl⟩
  unfold builtE at h
  rw [hm] at h
  simp only at h
  subst h
  rw [meas_mono allE e 400 40 33554432 131072 (meas_anyR soundE e 400 40 hm) (by omega) (by omega)]
theorem built_copyT {e : Ex} (h : builtE e = true) : copyT e = copyE e := by unfold copyT; rw [built_endsR h]; rfl
mutual
theorem copy_eval (row : List Val) : ∀ (e : Ex), goodE e → evalE row (copyE e) = evalE row e
  | .mk op n v l, hg => by
    have hl := copy_evalL row l (good_open hg).2
    have hn := no_args hg
    rw [copyE, evalE, evalE, hl]
    cases l with
    | nil =>
      rw [evalL]
      simp only [nodeV]
      rcases hn rfl with ⟨h1, _⟩ | h2
      · have h1 : op = 1 := h1
        subst h1; rfl
      · have h2 : op = 2 := h2
        subst h2
        simp only [beq_self_eq_true, if_true]
        rw [clean_clean]
    | cons x l =>
      rw [evalL]
      cases l with
      | nil => rw [evalL]; rfl
      | cons y l =>
        rw [evalL]
        cases l with
        | nil => rw [evalL]; rfl
        | cons z l => rw [evalL]; rfl
theorem copy_evalL (row : List Val) : ∀ (l : List Ex), goodL l → evalL row (copyL l) = evalL row l
  | [], _ => by rw [copyL]
  | e :: l, hg => by
    rw [goodL] at hg
    rw [copyL, evalL, evalL, copy_eval row e hg.1, copy_evalL row l hg.2]
end
mutual
/-- The columns in an expression, as often as they stand there. -/
def colsE : Ex → List Int
  | .mk op n _ l => (if op == 1 then [n] else []) ++ colsL l
def colsL : List Ex → List Int
  | [] => []
  | e :: l => colsE e ++ colsL l
end
theorem colsE_eq (e : Ex) : colsE e = (if e.op == 1 then [e.n] else []) ++ colsL e.args := by cases e; rw [colsE]; rfl
theorem cols_mem : ∀ {l : List Ex} {x : Ex} {n : Int}, x ∈ l → n ∈ colsE x → n ∈ colsL l
  | [], _, _, h, _ => by cases h
  | e :: l, x, n, h, hn => by
    rw [colsL, List.mem_append]
    rcases List.mem_cons.1 h with rfl | h
    · exact .inl hn
    · exact .inr (cols_mem h hn)
def usesB (e : Ex) (n : Int) : Bool := (colsE e).all fun c => decide (c < n)
theorem uses_arg {e x : Ex} {i : Nat} {n : Int} (h : usesB e n = true) (hx : e.args[i]? = some x) : usesB x n = true := by
  unfold usesB at h ⊢
  rw [List.all_eq_true] at h ⊢
  intro c hc
  exact h c (by rw [colsE_eq, List.mem_append]; exact .inr (cols_mem (List.mem_of_getElem? hx) hc))
theorem uses_col {e : Ex} {n : Int} (h : usesB e n = true) (h1 : e.op = 1) : e.n < n := by
  unfold usesB at h
  rw [List.all_eq_true] at h
  have := h e.n (by rw [colsE_eq, h1]; simp)
  simpa using this
/-- What is put in for a column. -/
def putG (by_ : List Ex) (e : Ex) : Ex := if e.op == 1 then copyT (by_.getD e.n.toNat e) else e
theorem putG_col {by_ : List Ex} {x : Ex} (h : x.op = 1) : putG by_ x = copyT (by_.getD x.n.toNat x) := by unfold putG; rw [h]; rfl
theorem putG_no {by_ : List Ex} {x : Ex} (h : ¬ x.op = 1) : putG by_ x = x := by
  have e1 : (x.op == 1) = false := by simpa using h
  unfold putG
  rw [e1]
  rfl
theorem col_args {x : Ex} (hg : goodE x) (h1 : x.op = 1) : x.args = [] := by
  have hl := sound_len (good_open hg).1
  rw [h1, show arI 1 = 0 by decide] at hl
  exact List.eq_nil_of_length_eq_zero (by omega)
theorem col_nat {x : Ex} (hg : goodE x) (h1 : x.op = 1) : 0 ≤ x.n := by
  rcases no_args hg (col_args hg h1) with ⟨_, h⟩ | h
  · exact h
  · rw [h1] at h; cases h
theorem getD_at {l : List Ex} {n : Nat} {d : Ex} (h : n < l.length) : l[n]? = some (l.getD n d) := by
  rw [List.getD_eq_getElem?_getD, List.getElem?_eq_getElem h]
  rfl
/-- With others put in: worked out as they are first, and then it. -/
theorem put_eval (row : List Val) (by_ : List Ex) (hb : ∀ x ∈ by_, builtE x = true) : ∀ e, goodE e → usesB e by_.length = true → evalE row (madeE (putG by_) e) = evalE (by_.map (evalE row)) e := fold_ind _ fun e hg ih hu => by
  rw [madeE_eq]
  by_cases h1 : e.op = 1
  · have hn := col_nat hg h1
    have hlt := uses_col hu h1
    have ho : (nodeG (putG by_) e).op = 1 := h1
    have hnn : (nodeG (putG by_) e).n = e.n := by show (if e.op == 1 then e.n else 0) = e.n; rw [h1]; rfl
    have hg2 : by_[e.n.toNat]? = some (by_.getD e.n.toNat (nodeG (putG by_) e)) := getD_at (by omega)
    have hp : putG by_ (nodeG (putG by_) e) = copyT (by_.getD e.n.toNat (nodeG (putG by_) e)) := by rw [putG_col ho, hnn]
    rw [hp]
    generalize by_.getD e.n.toNat (nodeG (putG by_) e) = x at *
    have hx := hb x (List.mem_of_getElem? hg2)
    rw [built_copyT hx, copy_eval row x (built_good hx), evalE_eq _ e, col_args hg h1, evalL, h1]
    have hx2 : (by_.map (evalE row)).getD e.n.toNat .null = evalE row x := by
      rw [List.getD_eq_getElem?_getD, List.getElem?_map, hg2]
      rfl
    show _ = if decide (((by_.map (evalE row)).length : Int) ≤ e.n) then Val.null else cleanV ((by_.map (evalE row)).getD e.n.toNat .null)
    rw [hx2, List.length_map, if_neg (by simp; omega), (eval_clean row x).1]
  · have e1 : (e.op == 1) = false := by simpa using h1
    have hp : putG by_ (nodeG (putG by_) e) = nodeG (putG by_) e := putG_no (show ¬ e.op = 1 from h1)
    rw [hp, evalE_eq, evalE_eq _ e]
    show nodeV e.op (if e.op == 1 then e.n else 0) (if e.op == 2 then cleanV e.v else .null) row (evalL row (e.args.map (madeE (putG by_)))) = _
    have hl : evalL row (e.args.map (madeE (putG by_))) = evalL (by_.map (evalE row)) e.args := by
      have key : ∀ (l : List Ex), (∀ x ∈ l, evalE row (madeE (putG by_) x) = evalE (by_.map (evalE row)) x) → evalL row (l.map (madeE (putG by_))) = evalL (by_.map (evalE row)) l := by
        intro l
        induction l with
        | nil => intro _; rw [List.map_nil, evalL, evalL]
        | cons x l ihl => intro h; rw [List.map_cons, evalL, evalL, h x (by simp), ihl fun y hy => h y (by simp [hy])]
      refine key e.args fun x hx => ?_
      obtain ⟨i, hi⟩ := List.getElem?_of_mem hx
      exact (ih x hx).2 (uses_arg hu hi)
    rw [hl]
    cases ha : e.args with
    | nil =>
      rw [evalL]
      rcases no_args hg ha with ⟨h, _⟩ | h2
      · exact absurd h h1
      · simp only [nodeV]
        rw [h2]; simp [clean_clean]
    | cons x l =>
      rw [evalL]
      cases l with
      | nil => rw [evalL]; rfl
      | cons y l =>
        rw [evalL]
        cases l with
        | nil => rw [evalL]; rfl
        | cons z l => rw [evalL]; rfl
/-- Nothing in it is too great. -/
theorem put_fin (by_ : List Ex) (hb : ∀ x ∈ by_, builtE x = true) (hbf : Ex.fins by_) : ∀ e, goodE e → usesB e by_.length = true → e.fin → (madeE (putG by_) e).fin := fold_ind _ fun e hg ih hu hf => by
  rw [madeE_eq]
  by_cases h1 : e.op = 1
  · have hn := col_nat hg h1
    have hlt := uses_col hu h1
    have ho : (nodeG (putG by_) e).op = 1 := h1
    have hnn : (nodeG (putG by_) e).n = e.n := by show (if e.op == 1 then e.n else 0) = e.n; rw [h1]; rfl
    have hg2 : by_[e.n.toNat]? = some (by_.getD e.n.toNat (nodeG (putG by_) e)) := getD_at (by omega)
    have hp : putG by_ (nodeG (putG by_) e) = copyT (by_.getD e.n.toNat (nodeG (putG by_) e)) := by rw [putG_col ho, hnn]
    rw [hp]
    exact copyT_fin2 (Ex.fins_mem hbf (List.mem_of_getElem? hg2))
  · have e1 : (e.op == 1) = false := by simpa using h1
    have hp : putG by_ (nodeG (putG by_) e) = nodeG (putG by_) e := putG_no (show ¬ e.op = 1 from h1)
    rw [hp]
    obtain ⟨⟨k1, k2, k3, k4⟩, k5⟩ := Ex.fin_open hf
    refine fin_mk _ ⟨?_, ?_, ?_, ?_⟩ (Ex.fins_of _ fun x hx => ?_)
    · show (e.args.map (madeE (putG by_))).length ≤ _
      rw [List.length_map]; exact k1
    · show (if e.op == 2 then cleanV e.v else .null).s.size ≤ _
      split
      · exact Nat.le_trans (clean_size _) k2
      · exact Nat.zero_le _
    · show In64 (if e.op == 2 then cleanV e.v else .null).n
      split
      · exact clean_in _ k3
      · exact in64_zero
    · show In64 (if e.op == 1 then e.n else 0)
      split
      · exact k4
      · exact in64_zero
    · obtain ⟨y, hy, rfl⟩ := List.mem_map.1 (show x ∈ e.args.map (madeE (putG by_)) from hx)
      obtain ⟨i, hi⟩ := List.getElem?_of_mem hy
      exact (ih y hy).2 (uses_arg hu hi) (Ex.fins_mem k5 hy)
end Go.Proofs.YtcpndojkfngioaaGreat
set_option linter.unusedSimpArgs false
set_option linter.unusedVariables false
set_option maxRecDepth 100000
namespace Go.Proofs.YtcpndojkfngioaaGreat
open Go.RowKit Go.Sort

theorem info3 : (Tryz.prog.info? 3).map (fun i => (i.zero, i.size, i.bytes)) = some (some (.int .i64 0), 1, 8) := by kernel_rfl
/-- The slice of numbers v, a row of the call's own, holds xs. -/
def OwnI (w : World) (base : Nat) (v : Value) (xs : List Int) : Prop := w.ownsRow base 3 1 v xs.length (xs.map (.int .i64))
theorem OwnI.later {w w1 : World} {base : Nat} {v : Value} {xs : List Int} (h : OwnI w base v xs) (hb : Below w.heap.size w w1) : OwnI w1 base v xs := own_later h hb
theorem OwnI.slice {w : World} {base : Nat} {v : Value} {L : List Int} (h : OwnI w base v L) : ∃ a cap, v = .slice a L.length cap := by
  rcases h.2 with ⟨rfl, h0⟩ | ⟨g, cap, cur, rfl, _⟩
  · have : L = [] := List.eq_nil_of_length_eq_zero h0
    subst this
    exact ⟨none, 0, rfl⟩
  · exact ⟨_, cap, rfl⟩
theorem OwnI.ints {w : World} {base : Nat} {a : Option Addr} {n cap : Nat} {L : List Int} (h : OwnI w base (.slice a n cap) L) : IntsAt w a L := by
  rcases h.2 with ⟨e, h0⟩ | ⟨g, cap', cur, e, _⟩
  · have : L = [] := List.eq_nil_of_length_eq_zero h0
    exact .inl this
  · injection e with e1 e2 e3
    subst e1
    refine .inr ⟨g, 0, rfl, fun i x hx => ?_⟩
    subst e3
    have hc := World.ownsRow.cells h rfl i (.int .i64 x) (by rw [List.getElem?_map, hx]; rfl)
    have ea : (⟨g, 0, none⟩ : Addr).add i = ⟨g, 0 + i, none⟩ := by
      by_cases h : i = 0 <;> simp [Addr.add, h]
    rw [ea] at hc
    exact hc
theorem ints_one (xs : List Int) : ∀ u ∈ xs.map (Value.int .i64), u.oneCell' = true := by
  intro u hu
  obtain ⟨x, _, rfl⟩ := List.mem_map.1 hu
  rfl
theorem OwnI.base_le {w : World} {base base' : Nat} {v : Value} {L : List Int} (h : OwnI w base v L) (hb : base' ≤ base) : OwnI w base' v L := by
  obtain ⟨h1, h2⟩ := h
  refine ⟨h1, ?_⟩
  rcases h2 with h2 | ⟨g, cap, cur, q1, q2, q3⟩
  · exact .inl h2
  · exact .inr ⟨g, cap, cur, q1, by omega, q3⟩
mutual
theorem cols_size : ∀ e : Ex, (colsE e).length ≤ e.size
  | .mk op n v l => by
    have := colsL_size l
    rw [colsE, List.length_append, Ex.size]
    split
    · show 1 + _ ≤ _; omega
    · show 0 + _ ≤ _; omega
theorem colsL_size : ∀ l : List Ex, (colsL l).length ≤ Ex.sizes l
  | [] => by rw [colsL]; exact Nat.zero_le _
  | e :: l => by
    have h1 := cols_size e
    have h2 := colsL_size l
    rw [colsL, List.length_append, Ex.sizes]
    omega
end
theorem own_ge {w : World} {base : Nat} {v : Value} {L : List Int} (h : OwnI w base v L) : ∀ g, v.ownBlock = some g → base ≤ g := by
  intro g hg
  rcases h.2 with ⟨rfl, _⟩ | ⟨g', cap, cur, rfl, hb, _⟩
  · cases hg
  · simp [Value.ownBlock] at hg
    omega
theorem wpList_append_ints {ops : Array Oper} {rest : List Oper} {o : Oper} {a : Act} {Q : Exit → Act → World → Prop} (w : World) (hgd : o.guard = none) (s x : Operand) (ho : o.op = .call { callee := .builtin .append, args := #[s, x], argTypes := #[23, 23] })
    (base base2 : Nat) (v u : Value) (L1 L2 : List Int) (hs : a.eval s = v) (hown : OwnI w base v L1) (hx : a.eval x = u) (hown2 : OwnI w base2 u L2) (hl : L1.length + L2.length ≤ 1000000) (hbase : base ≤ w.heap.size)
    (h : ∀ v' w', OwnI w' base v' (L1 ++ L2) → Below base w w' → wpList Tryz.prog ops Q rest (a.put o.dst v') w') : wpList Tryz.prog ops Q (o :: rest) a w := by
  obtain ⟨i4, hi4, z40, z41, z42⟩ := info_parts info3
  rcases hown2.2 with ⟨rfl, h0⟩ | ⟨g, cap, cur, rfl, _⟩
  · have : L2 = [] := List.eq_nil_of_length_eq_zero h0
    subst this
    exact wpList_append_own_none hgd s x 23 ho base 3 i4 1 Tryz.underlying23 hi4 v L1.length _ hs hown hx (h v w (by rw [List.append_nil]; exact hown) (Below.refl _ _))
  · refine wpList_append_own_at w hgd s x 23 ho base 3 i4 (.int .i64 0) 1 8 Tryz.underlying23 hi4 z40 z41 z42 rfl (by decide) v L1.length (L1.map (.int .i64)) hs hown ⟨g, 0, none⟩ L2.length cap (L2.map (.int .i64)) hx (by simp) (World.ownsRow.cells hown2 rfl) (ints_one L2) (by unfold maxLen; omega) (by omega) hbase ?_
    intro v' w' h1 h2 _ _
    refine h v' w' ?_ (grown_below h2 hbase (own_ge hown))
    unfold OwnI
    rw [List.length_append, List.map_append]
    exact h1
theorem own_nil (w : World) (base : Nat) : OwnI w base (.slice none 0 0) [] := World.ownsRow_nil _ _ _ _
theorem colsL_take {l : List Ex} {k : Nat} {x : Ex} (h : l[k]? = some x) : colsL (l.take (k + 1)) = colsL (l.take k) ++ colsE x := by
  have key : ∀ (l m : List Ex), colsL (l ++ m) = colsL l ++ colsL m := by
    intro l m
    induction l with
    | nil => rw [List.nil_append, colsL, List.nil_append]
    | cons y l ih => rw [List.cons_append, colsL, colsL, ih, List.append_assoc]
  rw [List.take_add_one, h, key]
  show _ ++ colsL [x] = _
  rw [colsL, colsL, List.append_nil]
theorem colsL_take_le (l : List Ex) (k : Nat) : (colsL (l.take k)).length ≤ Ex.sizes l := by
  induction l generalizing k with
  | nil => simp [colsL]
  | cons y l ih =>
    cases k with
    | zero => simp [colsL]
    | succ k =>
      rw [List.take_succ_cons, colsL, List.length_append, Ex.sizes]
      have := ih k
      have := cols_size y
      omega
theorem own_single (W : World) (base : Nat) (hb : base ≤ W.heap.size) (n : Int) : OwnI (W.alloc (.cells #[.int .i64 n] 3)) base (.slice (some ⟨W.heap.size, 0, none⟩) 1 1) [n] :=
  ⟨rfl, .inr ⟨W.heap.size, 1, _, rfl, hb, Go.Deep.blk_alloc_new _ _, Nat.le_refl _, by unfold maxLen; omega, rfl, rfl⟩⟩
set_option maxHeartbeats 1000000 in
set_option maxRecDepth 100000 in
theorem columns_step (e : Ex) (hg : goodE e) (hf : e.fin) (hsz : e.size ≤ 400) (a : Option Addr) (c : Nat) (w : World) (ha : Ex.all w a e.args)
    (IH : ∀ (i : Nat) (x : Ex), e.args[i]? = some x → ∀ (a' : Option Addr) (c' : Nat) (W : World), Ex.all W a' x.args → Calls Tryz.prog 111 #[x.val a' c'] W fun r w' => ∃ v, r = .returned v ∧ OwnI w' W.heap.size v (colsE x) ∧ Below W.heap.size W w') :
    Calls Tryz.prog 111 #[e.val a c] w fun r w' => ∃ v, r = .returned v ∧ OwnI w' w.heap.size v (colsE e) ∧ Below w.heap.size w w' := by
  have HIH := hide IH
  have HAL := hide ha
  have hBa := below_alloc (Below.refl _ w) (.cells #[.int .i64 e.op, .int .i64 e.n, .int .i64 e.v.k, .int .i64 e.v.n, .string e.v.s, .slice a e.args.length c] 74)
  have HCE := hide (colsE_eq e)
  have HL : Hid (Ex.sizes e.args ≤ 399) := by show _ ≤ _; rw [Ex.size_mk] at hsz; omega
  have hlen := (Ex.fin_open hf).1.1
  rw [Ex.val_open]
  clear IH ha
  by_cases h1 : e.op = 1
  · have hl0 : e.args.length = 0 := by rw [col_args hg h1]; rfl
    have hce : colsE e = [e.n] := by rw [colsE_eq, h1, col_args hg h1, colsL]; rfl
    have HCE2 := hide hce
    rw [h1, hl0]
    rw [h1, hl0] at hBa
    have HS := hide (own_single (w.alloc (.cells #[.int .i64 1, .int .i64 e.n, .int .i64 e.v.k, .int .i64 e.v.n, .string e.v.s, .slice a 0 c] 74)) w.heap.size hBa.size e.n)
    rw [show (w.alloc (.cells #[.int .i64 1, .int .i64 e.n, .int .i64 e.v.k, .int .i64 e.v.n, .string e.v.s, .slice a 0 c] 74)).heap.size = w.heap.size + 1 by simp [go_sem]] at HS
    have HB2 := hide (below_alloc hBa (.cells #[.int .i64 e.n] 3))
    have HSX : Hid (((w.alloc (.cells #[.int .i64 1, .int .i64 e.n, .int .i64 e.v.k, .int .i64 e.v.n, .string e.v.s, .slice a 0 c] 74)).alloc (.cells #[.int .i64 e.n] 3)).cell? ⟨w.heap.size, 5, none⟩ = some (.slice a 0 c)) := by show _ = _; simp [go_sem]
    clear hce HCE hl0
    go_enter Tryz.func111, Tryz.ntmps111
    go_wp2_with (at_builtin; go_loud (refine wpList_append_ints _ rfl (.tmp 9) (.tmp 12) rfl (w.heap.size + 1) w.heap.size (.slice none 0 0) (.slice (some ⟨w.heap.size + 1, 0, none⟩) 1 1) [] [e.n] rfl (own_nil _ _) rfl (unhide HS) (by simp) (by simp [go_sem]) ?_); intro v4 w4 hO4 hb4; have c5 : w4.cell? ⟨w.heap.size, 5, none⟩ = some (.slice a 0 c) := by rw [hb4.cell (p := ⟨w.heap.size, 5, none⟩) (by show w.heap.size < w.heap.size + 1; omega)]; exact unhide HSX)
    have HO4 : Hid (OwnI w4 w.heap.size v4 [e.n]) := hO4.base_le (base' := w.heap.size) (by omega)
    have HB4 := hide ((unhide HB2).trans (hb4.mono (by omega : w.heap.size ≤ w.heap.size + 1)))
    clear hO4 hb4
    obtain ⟨a4, cap4, rfl⟩ := (unhide HO4).slice
    go_loopw [3, 17] (fun s3 i wr => s3 = .slice a4 [e.n].length cap4 ∧ i = .int .i64 0 ∧ wr = w4) (fun _ _ _ => 0)
    case atStart => exact ⟨rfl, rfl, rfl⟩
    case round =>
      obtain ⟨rfl, rfl, rfl⟩ := hrel
      go_wp2
      go_ret
      exact ⟨_, rfl, by rw [unhide HCE2]; exact unhide HO4, unhide HB4⟩
  · have e1 : (e.op == 1) = false := by simpa using h1
    rw [e1] at HCE
    simp only [Bool.false_eq_true, if_false, List.nil_append] at HCE
    have HE1 := hide e1
    obtain ⟨wa, hwa⟩ : ∃ wa, wa = w.alloc (.cells #[.int .i64 e.op, .int .i64 e.n, .int .i64 e.v.k, .int .i64 e.v.n, .string e.v.s, .slice a e.args.length c] 74) := ⟨_, rfl⟩
    have HBA : Hid (Below w.heap.size w wa) := by rw [hwa]; exact hBa
    go_enter Tryz.func111, Tryz.ntmps111
    go_wp2
    rw [← hwa]
    try rw [unhide HE1]
    clear hBa hwa
    go_loopw [3, 17] (fun s3 i wr => ∃ (k : Nat) (v3 : Value), k ≤ e.args.length ∧ i = .int .i64 (k : Int) ∧ s3 = v3 ∧ Hid (OwnI wr w.heap.size v3 (colsL (e.args.take k)) ∧ Below w.heap.size w wr)) (fun _ i _ => e.args.length - (intOf i).toNat)
    case atStart => exact ⟨0, _, Nat.zero_le _, rfl, rfl, by show OwnI _ _ _ (colsL []); rw [colsL]; exact own_nil _ _, unhide HBA⟩
    case round =>
      obtain ⟨k, v3', hk, rfl, rfl, HI⟩ := hrel
      obtain ⟨hO, hB⟩ := unhide HI
      obtain ⟨a3, cap3, rfl⟩ := hO.slice
      by_cases hlt : k < e.args.length
      · have h9 : (k : Int) < (e.args.length : Int) := by omega
        obtain ⟨x, hx⟩ : ∃ x, e.args[k]? = some x := ⟨_, List.getElem?_eq_getElem hlt⟩
        obtain ⟨vb, vo, ea, hat⟩ := Ex.all_get (Ex.all_later _ (unhide HAL) hB) hx
        obtain ⟨a', c', ⟨d0, d1, d2, d3, d4, d5⟩, hal⟩ := Ex.at_open hat
        have HC := hide (unhide HIH k x hx a' c' (wr.alloc (.cells #[.int .i64 x.op, .int .i64 x.n, .int .i64 x.v.k, .int .i64 x.v.n, .string x.v.s, .slice a' x.args.length c'] 74)) (Ex.all_later _ hal (below_alloc (Below.refl _ _) _)))
        rw [Ex.val_open] at HC
        have HTK := hide (colsL_take hx)
        have hcl : (colsL (e.args.take (k + 1))).length ≤ 399 := Nat.le_trans (colsL_take_le _ _) (unhide HL)
        rw [unhide HTK, List.length_append] at hcl
        have HBW := hide (below_alloc (Below.refl _ wr) (.cells #[.int .i64 x.op, .int .i64 x.n, .int .i64 x.v.k, .int .i64 x.v.n, .string x.v.s, .slice a' x.args.length c'] 74))
        have HBr := hide hB
        have HOr := hide hO
        subst ea
        clear hx hat hal hO hB HI
        go_wp2_with (first
          | (go_at_call 111; refine (unhide HC).mono ?_; rintro r w3 ⟨v3, rfl, hO3, hb3⟩; have hb13 := below_step (unhide HBW) hb3; have HO3 := hide hO3; have HO1 := hide ((unhide HOr).later hb13); clear hO3)
          | (at_builtin; refine wpList_append_ints w3 rfl (.tmp 21) (.tmp 23) rfl w.heap.size _ (.slice a3 (colsL (e.args.take k)).length cap3) v3 _ _ rfl (unhide HO1) rfl (unhide HO3) (by omega) (below_step (unhide HBr) hb13).size ?_; intro v4 w4 hO4 hb4; have HO4 := hide hO4; clear hO4))
        refine ⟨⟨k + 1, v4, by omega, by go_num, rfl, ?_, (unhide HBr).trans ((hb13.mono (unhide HBr).size).trans hb4)⟩, by simp [intOf]; omega⟩
        rw [unhide HTK]
        exact unhide HO4
      · have h9 : ¬ (k : Int) < (e.args.length : Int) := by omega
        have HOr : Hid (OwnI wr w.heap.size (.slice a3 (colsL (e.args.take k)).length cap3) (colsE e)) := by
          show OwnI _ _ _ _
          rw [unhide HCE, show colsL e.args = colsL (e.args.take k) by rw [List.take_of_length_le (by omega)]]
          exact hO
        have HBr := hide hB
        clear hO hB HI
        go_wp2
        go_ret
        exact ⟨_, rfl, unhide HOr, unhide HBr⟩
theorem columns_all : ∀ (k : Nat) (e : Ex), e.size ≤ k → goodE e → e.fin → e.size ≤ 400 → ∀ (a : Option Addr) (c : Nat) (w : World), Ex.all w a e.args →
    Calls Tryz.prog 111 #[e.val a c] w fun r w' => ∃ v, r = .returned v ∧ OwnI w' w.heap.size v (colsE e) ∧ Below w.heap.size w w'
  | 0, e, hs, _, _, _, _, _, _, _ => by rw [Ex.size_mk] at hs; omega
  | k + 1, e, hs, hg, hf, h4, a, c, w, ha => columns_step e hg hf h4 a c w ha fun i x hx a' c' W hW =>
    columns_all k x (by have := Ex.size_arg hx; omega) (good_arg hg hx) (Ex.fin_arg hf hx) (by have := Ex.size_arg hx; omega) a' c' W hW
end Go.Proofs.YtcpndojkfngioaaGreat
set_option linter.unusedSimpArgs false
set_option linter.unusedVariables false
set_option maxRecDepth 100000
namespace Go.Proofs.YtcpndojkfngioaaGreat
open Go.RowKit Go.Sort

theorem ints_later {w w' : World} {a : Option Addr} {l : List Int} (h : IntsAt w a l) (hb : Below w.heap.size w w') : IntsAt w' a l := h.later hb
theorem all_drop {p : Int → Bool} {l : List Int} {k : Nat} {x : Int} (hx : l[k]? = some x) : (l.drop k).all p = (p x && (l.drop (k + 1)).all p) := by
  obtain ⟨q1, q2⟩ := List.getElem?_eq_some_iff.1 hx
  rw [List.drop_eq_getElem_cons q1, List.all_cons, q2]
set_option maxHeartbeats 1000000 in
set_option maxRecDepth 100000 in
/-- usesBelow (19). -/
theorem uses_any (e : Ex) (hg : goodE e) (hf : e.fin) (hsz : e.size ≤ 400) (n : Int) (a : Option Addr) (c : Nat) (w : World) (ha : Ex.all w a e.args) :
    Calls Tryz.prog 115 #[e.val a c, .int .i64 n] w fun r w' => r = .returned (.bool (usesB e n)) ∧ Below w.heap.size w w' := by
  have HC := hide (fun (W : World) (hW : Below w.heap.size w W) => columns_all e.size e (Nat.le_refl _) hg hf hsz a c W (Ex.all_later _ ha hW))
  have HB0 := hide (below_alloc (Below.refl _ w) (.cells #[.int .i64 e.op, .int .i64 e.n, .int .i64 e.v.k, .int .i64 e.v.n, .string e.v.s, .slice a e.args.length c] 74))
  have hcl : (colsE e).length ≤ 400 := Nat.le_trans (cols_size e) hsz
  obtain ⟨cols, hcols⟩ : ∃ cols, cols = colsE e := ⟨_, rfl⟩
  have HU : Hid (usesB e n = cols.all fun c => decide (c < n)) := by rw [hcols]; rfl
  rw [← hcols] at HC hcl
  rw [Ex.val_open] at HC ⊢
  generalize usesB e n = R at *
  clear ha hcols
  go_enter Tryz.func115, Tryz.ntmps115
  go_wp2_with (go_at_call 111; refine (unhide HC _ (unhide HB0)).mono ?_; rintro r w1 ⟨v1, rfl, hO, hb1⟩; obtain ⟨a1, cap1, rfl⟩ := hO.slice)
  have HI1 := hide hO.ints
  have HB1 := hide (below_step (unhide HB0) hb1)
  clear hO hb1
  go_loopw [10] (fun i wr => ∃ k : Nat, k ≤ cols.length ∧ i = .int .i64 (k : Int) ∧ Hid (R = (cols.drop k).all fun c => decide (c < n)) ∧ wr = w1) (fun i _ => cols.length - (intOf i).toNat)
  case atStart => exact ⟨0, Nat.zero_le _, rfl, unhide HU, rfl⟩
  case round =>
    obtain ⟨k, hk, rfl, HR, rfl⟩ := hrel
    by_cases hlt : k < cols.length
    · have h9 : (k : Int) < (cols.length : Int) := by omega
      obtain ⟨x, hx⟩ : ∃ x, cols[k]? = some x := ⟨_, List.getElem?_eq_getElem hlt⟩
      obtain ⟨b, off, rfl, c0⟩ := (unhide HI1).get hx
      rw [all_drop hx] at HR
      clear hx
      by_cases hxn : x < n
      · have hd : decide (x < n) = true := by simpa using hxn
        rw [hd, Bool.true_and] at HR
        clear hd
        go_wp2
        exact ⟨⟨k + 1, by omega, by go_num, HR, by trivial⟩, by simp [intOf]; omega⟩
      · have hd : decide (x < n) = false := by simpa using hxn
        rw [hd, Bool.false_and] at HR
        clear hd
        go_wp2
        go_ret
        exact ⟨by rw [unhide HR]; rfl, unhide HB1⟩
    · have h9 : ¬ (k : Int) < (cols.length : Int) := by omega
      rw [List.drop_eq_nil_of_le (by omega), List.all_nil] at HR
      go_wp2
      go_ret
      exact ⟨by rw [unhide HR]; rfl, unhide HB1⟩
end Go.Proofs.YtcpndojkfngioaaGreat
set_option linter.unusedSimpArgs false
set_option linter.unusedVariables false
namespace Go.Proofs.YtcpndojkfngioaaGreat
open Go.RowKit Go.Sort

set_option maxHeartbeats 400000 in
set_option maxRecDepth 100000 in
/-- Size (15). -/
theorem size_any (e : Ex) (hf : e.fin) (a : Option Addr) (c : Nat) (w : World) (ha : Ex.all w a e.args) :
    Calls Tryz.prog 70 #[e.val a c] w fun r w' => r = .returned (.tuple #[.int .i64 (sizeB e).1, .int .i64 (sizeB e).2]) ∧ Below w.heap.size w w' := by
  have HM := hide (fun o => measured_all e.size e (Nat.le_refl _) hf 400 40 a c (w.alloc o) (by omega) (by omega) (by omega) (by omega) (Ex.all_later _ ha (below_alloc (Below.refl _ _) o)))
  rw [Ex.val_open] at HM ⊢
  clear ha
  cases hb : builtE e with
  | true =>
    have hs : sizeB e = ((e.size : Int), (e.high : Int)) := by unfold sizeB; rw [if_pos hb]
    rw [built_size hb] at HM
    rw [hs]
    clear hb hs
    go_enter Tryz.func70, Tryz.ntmps70
    go_wp2_with (go_at_call 100; refine (unhide HM _).mono ?_; rintro r w1 ⟨rfl, hb1⟩)
    refine bodyPost_ret (v := .tuple #[.int .i64 (e.size : Int), .int .i64 (e.high : Int)]) (by simp [results, Tryz.results70, go_sem]) rfl ⟨rfl, below_one hb1⟩
  | false =>
    have hs : sizeB e = (401, 41) := by unfold sizeB; rw [hb]; rfl
    obtain ⟨q, hq⟩ : ∃ q, measE soundE e 400 40 = q := ⟨_, rfl⟩
    have hb2 : builtE e = q.2.2 := by rw [← hq]; rfl
    rw [hb] at hb2
    rw [hq] at HM
    obtain ⟨c2, h2, ok⟩ := q
    simp only at hb2
    subst hb2
    rw [hs]
    clear hb hs hq
    go_enter Tryz.func70, Tryz.ntmps70
    go_wp2_with (go_at_call 100; refine (unhide HM _).mono ?_; rintro r w1 ⟨rfl, hb1⟩)
    refine bodyPost_ret (v := .tuple #[.int .i64 401, .int .i64 41]) (by simp [results, Tryz.results70, go_sem]) rfl ⟨rfl, below_one hb1⟩
end Go.Proofs.YtcpndojkfngioaaGreat
