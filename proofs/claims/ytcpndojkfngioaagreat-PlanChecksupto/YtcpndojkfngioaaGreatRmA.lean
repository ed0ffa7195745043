import Derived.Test.YtcpndojkfngioaaGreatExV
import Derived.Test.YtcpndojkfngioaaGreatPaB
set_option linter.unusedSimpArgs false
set_option linter.unusedVariables false
namespace Go.Proofs.YtcpndojkfngioaaGreat
open Go.RowKit Go.Sort

/-! Values that are clean, and small. -/
def CleanB (v : Val) : Prop := cleanV v = v ∧ (v.k ≠ 2 → v.s = ⟨#[]⟩)
theorem cl_num (n : Int) : CleanB (.num n) := ⟨by simp [cleanV, Val.num], fun _ => rfl⟩
theorem cl_null : CleanB .null := ⟨by simp [cleanV, Val.null], fun _ => rfl⟩
theorem cl_str (s : ByteArray) : CleanB (.str s) := ⟨by simp [cleanV, Val.str], fun h => absurd rfl h⟩
theorem cl_clean (v : Val) : CleanB (cleanV v) := by
  unfold cleanV
  split
  · exact cl_num _
  · split
    · exact cl_str _
    · exact cl_null
theorem cl_truth (b : Bool) : CleanB (truthV b) := cl_num _
theorem cl_reck (op : Int) (a b : Val) : CleanB (reckV op a b) := by
  unfold reckV
  split
  · cases reck op a.n b.n with
    | none => exact cl_null
    | some n => exact cl_num _
  · exact cl_null
theorem cl_not (a : Val) : CleanB (notV a) := by unfold notV; split; exact cl_truth _; exact cl_null
theorem cl_test (op : Int) (a b : Val) : CleanB (testV op a b) := by
  unfold testV
  split
  · exact cl_null
  · unfold testR
    cases testB op (ordV a b) with
    | none => exact cl_null
    | some t => exact cl_truth _
theorem cl_cat (a b : Val) : CleanB (catV a b) := by unfold catV; split; exact cl_str _; exact cl_null
theorem cl_both (op : Int) (a b : Val) : CleanB (bothV op a b) := by
  unfold bothV
  repeat' split
  all_goals first | exact cl_truth _ | exact cl_null
theorem cl_one (op : Int) (x : Val) : CleanB (oneV op x) := by
  unfold oneV
  repeat' split
  all_goals first | exact cl_reck _ _ _ | exact cl_not _ | exact cl_num _ | exact cl_null
theorem cl_two (op : Int) (x y : Val) : CleanB (twoV op x y) := by
  unfold twoV
  repeat' split
  all_goals first | exact cl_reck _ _ _ | exact cl_test _ _ _ | exact cl_cat _ _ | exact cl_both _ _ _
mutual
theorem eval_clean (row : List Val) : ∀ (e : Ex), CleanB (evalE row e)
  | .mk op n v l => by
    have hl := evalL_clean row l
    rw [evalE]
    cases hx : evalL row l with
    | nil =>
      simp only [nodeV]
      repeat' split
      all_goals first | exact cl_clean _ | exact cl_null
    | cons x r =>
      rw [hx] at hl
      cases r with
      | nil => exact cl_one op x
      | cons y r =>
        cases r with
        | nil => exact cl_two op x y
        | cons z r =>
          simp only [nodeV]
          split
          · exact hl y (by simp)
          · exact hl z (by simp)
theorem evalL_clean (row : List Val) : ∀ (l : List Ex), ∀ v ∈ evalL row l, CleanB v
  | [], v, h => by rw [evalL] at h; cases h
  | e :: l, v, h => by
    rw [evalL] at h
    rcases List.mem_cons.1 h with rfl | h
    · exact eval_clean row e
    · exact evalL_clean row l v h
end
def Small (v : Val) : Prop := v.s.size ≤ 1000
theorem sm_num (n : Int) : Small (.num n) := Nat.zero_le _
theorem sm_null : Small .null := Nat.zero_le _
theorem sm_of {v : Val} (h : CleanB v) (hk : v.k ≠ 2) : Small v := by unfold Small; rw [h.2 hk]; exact Nat.zero_le _
theorem sm_reck (op : Int) (a b : Val) : Small (reckV op a b) := by
  unfold reckV
  split
  · cases reck op a.n b.n with
    | none => exact sm_null
    | some n => exact sm_num _
  · exact sm_null
theorem sm_not (a : Val) : Small (notV a) := by unfold notV; split; exact sm_num _; exact sm_null
theorem sm_test (op : Int) (a b : Val) : Small (testV op a b) := by
  unfold testV
  split
  · exact sm_null
  · unfold testR
    cases testB op (ordV a b) with
    | none => exact sm_null
    | some t => exact sm_num _
theorem sm_cat (a b : Val) : Small (catV a b) := by
  unfold catV
  split
  · rename_i h
    simp only [Bool.and_eq_true, decide_eq_true_eq] at h
    show (a.s ++ b.s).size ≤ 1000
    rw [ByteArray.size_append]
    exact h.2
  · exact sm_null
theorem sm_both (op : Int) (a b : Val) : Small (bothV op a b) := by
  unfold bothV
  repeat' split
  all_goals first | exact sm_num _ | exact sm_null
theorem sm_one (op : Int) (x : Val) : Small (oneV op x) := by
  unfold oneV
  repeat' split
  all_goals first | exact sm_reck _ _ _ | exact sm_not _ | exact sm_num _ | exact sm_null
theorem sm_two (op : Int) (x y : Val) : Small (twoV op x y) := by
  unfold twoV
  repeat' split
  all_goals first | exact sm_reck _ _ _ | exact sm_test _ _ _ | exact sm_cat _ _ | exact sm_both _ _ _
mutual
theorem eval_small : ∀ (e : Ex), goodE e → Small (evalE [] e)
  | .mk op n v l, hg => by
    have hl := evalL_small l (good_open hg).2
    have hn := no_args hg
    have hs := (good_open hg).1
    rw [evalE]
    cases l with
    | nil =>
      rw [evalL]
      simp only [nodeV]
      split
      · rename_i h2
        have h2 : op = 2 := by simpa using h2
        subst h2
        unfold soundE at hs
        simp only [Bool.and_eq_true] at hs
        have h3 := hs.2
        have h4 : (if (2 : Int) == 1 then decide (0 ≤ n) else if (2 : Int) == 2 then decide ((cleanV v).s.size ≤ 1000) else true) = true := h3
        rw [if_neg (by decide), if_pos (by decide)] at h4
        show (cleanV v).s.size ≤ 1000
        exact of_decide_eq_true h4
      · rename_i h2
        rcases hn rfl with ⟨h1, h0⟩ | h1
        · have h0 : 0 ≤ n := h0
          rw [if_pos (by simpa using h0)]
          exact sm_null
        · exact absurd (show op = 2 from h1) (by simpa using h2)
    | cons x l =>
      cases l with
      | nil => rw [evalL, evalL]; exact sm_one op _
      | cons y l =>
        cases l with
        | nil => rw [evalL, evalL, evalL]; exact sm_two op _ _
        | cons z l =>
          rw [evalL, evalL, evalL] at hl ⊢
          simp only [nodeV]
          split
          · exact hl _ (by simp)
          · exact hl _ (by simp)
theorem evalL_small : ∀ (l : List Ex), goodL l → ∀ v ∈ evalL [] l, Small v
  | [], _, v, h => by rw [evalL] at h; cases h
  | e :: l, hg, v, h => by
    rw [goodL] at hg
    rw [evalL] at h
    rcases List.mem_cons.1 h with rfl | h
    · exact eval_small e hg.1
    · exact evalL_small l hg.2 v h
end
/-! How high an expression is; what measured tells. -/
mutual
def Ex.high : Ex → Nat
  | .mk _ _ _ l => Ex.highs l + 1
def Ex.highs : List Ex → Nat
  | [] => 0
  | e :: l => max e.high (Ex.highs l)
end
mutual
theorem meas_size : ∀ (e : Ex) (N H : Int), goodE e → (e.size : Int) ≤ N → (e.high : Int) ≤ H → measE soundE e N H = ((e.size : Int), (e.high : Int), true)
  | .mk op n v l, N, H, hg, h1, h2 => by
    rw [Ex.size] at h1
    rw [Ex.high] at h2
    obtain ⟨hs, hl⟩ := good_open hg
    have hs : soundE (.mk op n v l) = true := hs
    rw [measE, hs, if_neg (by simp only [Bool.or_eq_true, decide_eq_true_eq, Bool.not_true, not_or]; exact ⟨⟨by omega, by omega⟩, by simp⟩)]
    rw [measL_size l N H 1 0 hl (by omega) (by omega) (by omega) (by omega)]
    simp only [Prod.mk.injEq, and_true]
    rw [Ex.size, Ex.high]
    constructor
    · omega
    · omega
theorem measL_size : ∀ (l : List Ex) (N H c h : Int), goodL l → 0 ≤ c → 0 ≤ h → c + (Ex.sizes l : Int) ≤ N → (Ex.highs l : Int) ≤ H - 1 → measL soundE l N H c h = some (c + (Ex.sizes l : Int), max h (Ex.highs l : Int))
  | [], N, H, c, h, _, _, hh, _, _ => by
    rw [measL, Ex.sizes, Ex.highs]
    simp only [Option.some.injEq, Prod.mk.injEq]
    constructor <;> omega
  | e :: l, N, H, c, h, hg, hc, hh, h1, h2 => by
    rw [goodL] at hg
    rw [Ex.sizes] at h1
    rw [Ex.highs] at h2
    rw [measL, meas_size e (N - c) (H - 1) hg.1 (by omega) (by omega)]
    simp only [if_true]
    rw [measL_size l N H _ _ hg.2 (by omega) (by omega) (by omega) (by omega), Ex.sizes, Ex.highs]
    simp only [Option.some.injEq, Prod.mk.injEq]
    constructor <;> omega
end
mutual
theorem meas_eq : ∀ (e : Ex) (N H : Int) {c h : Int}, measE soundE e N H = (c, h, true) → c = (e.size : Int) ∧ h = (e.high : Int)
  | .mk op n v l, N, H, c, h, he => by
    rw [measE] at he
    split at he
    · injection he with _ he; injection he with _ he; cases he
    · cases hm : measL soundE l N H 1 0 with
      | none => rw [hm] at he; simp only at he; injection he with _ he; injection he with _ he; cases he
      | some q =>
        rw [hm] at he
        simp only at he
        injection he with e1 e2
        injection e2 with e2 _
        have := measL_eq l N H 1 0 (c' := q.1) (h' := q.2) hm
        rw [Ex.size, Ex.high]
        omega
theorem measL_eq : ∀ (l : List Ex) (N H c h : Int) {c' h' : Int}, measL soundE l N H c h = some (c', h') → c' = c + (Ex.sizes l : Int) ∧ (0 ≤ h → h' = max h (Ex.highs l : Int))
  | [], N, H, c, h, c', h', he => by
    rw [measL] at he
    injection he with he; injection he with e1 e2
    rw [Ex.sizes, Ex.highs]
    constructor
    · omega
    · intro h0; omega
  | e :: l, N, H, c, h, c', h', he => by
    rw [measL] at he
    split at he
    · rename_i hok
      obtain ⟨c2, h2', ok, hm⟩ : ∃ c2 h2 ok, measE soundE e (N - c) (H - 1) = (c2, h2, ok) := ⟨_, _, _, rfl⟩
      rw [hm] at he hok
      simp only at he hok
      subst hok
      have g := meas_eq e (N - c) (H - 1) hm
      have := measL_eq l N H _ _ he
      rw [Ex.sizes, Ex.highs]
      constructor
      · omega
      · intro h0; have := this.2 (by omega); omega
    · cases he
end
theorem built_size {e : Ex} (h : builtE e = true) : measE soundE e 400 40 = ((e.size : Int), (e.high : Int), true) := by
  obtain ⟨c, h2, ok, hm⟩ : ∃ c h2 ok, measE soundE e 400 40 = (c, h2, ok) := ⟨_, _, _, rfl⟩
  unfold builtE at h
  rw [hm] at h
  simp only at h
  subst h
  obtain ⟨h1, h2⟩ := meas_eq e 400 40 hm
  rw [hm, h1, h2]
theorem built_of {e : Ex} (hg : goodE e) (h1 : e.size ≤ 400) (h2 : e.high ≤ 40) : builtE e = true := by
  unfold builtE
  rw [meas_size e 400 40 hg (by omega) (by omega)]
theorem built_bounds {e : Ex} (h : builtE e = true) : e.size ≤ 400 ∧ e.high ≤ 40 := by
  have := meas_le soundE e 400 40 (built_size h)
  omega
end Go.Proofs.YtcpndojkfngioaaGreat
set_option linter.unusedSimpArgs false
set_option linter.unusedVariables false
namespace Go.Proofs.YtcpndojkfngioaaGreat
open Go.RowKit Go.Sort

abbrev conE (v : Val) : Ex := .mk 2 0 v []
def notConst (e : Ex) : Bool := e.op != 2
def zeroB (v : Val) : Bool := decide (v.k = 1) && (decide (v.n = 0) && decide (v.s = ⟨#[]⟩))
def isZeroE (e : Ex) : Bool := (e.op == 2) && zeroB e.v
def isTrueE (e : Ex) : Bool := (e.op == 2) && trueB e.v
/-- A node whose parts are folded, folded. -/
def simpE (e : Ex) : Ex :=
  if decide (0 < e.args.length) && !(e.args.any notConst) then conE (evalE [] e)
  else if e.op == 19 then (match e.args with
    | [x, y] => if isZeroE x then x else if isZeroE y then y else e
    | _ => e)
  else if e.op == 20 then (if e.args.any isTrueE then conE (.num 1) else e)
  else if e.op == 21 then (match e.args with
    | [x, y, z] => if x.op == 2 then (if isTrueE x then y else z) else e
    | _ => e)
  else e
abbrev foldE : Ex → Ex := madeE simpE
/-- What becomes of a node. -/
theorem simp_cases (e : Ex) (hg : goodE e) : (0 < e.args.length ∧ (∀ x ∈ e.args, x.op = 2) ∧ simpE e = conE (evalE [] e)) ∨
    (simpE e = e) ∨
    (e.op = 19 ∧ ∃ x y, e.args = [x, y] ∧ ((isZeroE x = true ∧ simpE e = x) ∨ (isZeroE y = true ∧ simpE e = y))) ∨
    (e.op = 20 ∧ (∃ x y, e.args = [x, y] ∧ (isTrueE x = true ∨ isTrueE y = true)) ∧ simpE e = conE (.num 1)) ∨
    (e.op = 21 ∧ ∃ x y z, e.args = [x, y, z] ∧ x.op = 2 ∧ ((isTrueE x = true ∧ simpE e = y) ∨ (isTrueE x = false ∧ simpE e = z))) := by
  unfold simpE
  split
  · rename_i h
    simp only [Bool.and_eq_true, decide_eq_true_eq, Bool.not_eq_true', List.any_eq_false] at h
    exact .inl ⟨h.1, fun x hx => by have := h.2 x hx; simpa [notConst] using this, rfl⟩
  · split
    · rename_i h
      have h19 : e.op = 19 := by simpa using h
      obtain ⟨x, y, hxy⟩ := two_args hg (by rw [h19]; decide)
      rw [hxy]
      simp only
      split
      · rename_i hz
        exact .inr (.inr (.inl ⟨h19, x, y, rfl, .inl ⟨hz, rfl⟩⟩))
      · split
        · rename_i hz
          exact .inr (.inr (.inl ⟨h19, x, y, rfl, .inr ⟨hz, rfl⟩⟩))
        · exact .inr (.inl rfl)
    · split
      · rename_i h
        have h20 : e.op = 20 := by simpa using h
        split
        · rename_i ht
          obtain ⟨x, y, hxy⟩ := two_args hg (by rw [h20]; decide)
          refine .inr (.inr (.inr (.inl ⟨h20, ⟨x, y, hxy, ?_⟩, rfl⟩)))
          rw [hxy] at ht
          simpa using ht
        · exact .inr (.inl rfl)
      · split
        · rename_i h
          have h21 : e.op = 21 := by simpa using h
          have hl := sound_len (good_open hg).1
          rw [h21, show arI 21 = 3 by decide] at hl
          match he : e.args, hl with
          | [x, y, z], _ =>
            simp only
            split
            · rename_i hx
              split
              · rename_i ht
                exact .inr (.inr (.inr (.inr ⟨h21, x, y, z, rfl, by simpa using hx, .inl ⟨ht, rfl⟩⟩)))
              · rename_i ht
                exact .inr (.inr (.inr (.inr ⟨h21, x, y, z, rfl, by simpa using hx, .inr ⟨by simpa using ht, rfl⟩⟩)))
            · exact .inr (.inl rfl)
          | [], hl => simp at hl
          | [_], hl => simp at hl
          | [_, _], hl => simp at hl
          | _ :: _ :: _ :: _ :: _, hl => simp at hl; omega
        · exact .inr (.inl rfl)
theorem const_args {x : Ex} (hg : goodE x) (h2 : x.op = 2) : x.args = [] := by
  have hl := sound_len (good_open hg).1
  rw [h2, show arI 2 = 0 by decide] at hl
  exact List.eq_nil_of_length_eq_zero (by omega)
theorem const_eval {x : Ex} (hg : goodE x) (h2 : x.op = 2) (row : List Val) : evalE row x = cleanV x.v := by
  rw [evalE_eq, const_args hg h2, evalL, h2]
  rfl
theorem con_eval (v : Val) (row : List Val) : evalE row (conE v) = cleanV v := by rw [evalE, evalL]; rfl
theorem con_good {v : Val} (h : (cleanV v).s.size ≤ 1000) : goodE (conE v) := by
  rw [goodE, goodL]
  refine ⟨?_, trivial⟩
  unfold soundE
  simp [Ex.op, Ex.n, Ex.v, Ex.args, arI, h]
theorem evalL_consts (row : List Val) : ∀ (l : List Ex), goodL l → (∀ x ∈ l, x.op = 2) → evalL row l = evalL [] l
  | [], _, _ => by rw [evalL, evalL]
  | x :: l, hg, h => by
    rw [goodL] at hg
    rw [evalL, evalL, evalL_consts row l hg.2 (fun y hy => h y (by simp [hy])), const_eval hg.1 (h x (by simp)) row, const_eval hg.1 (h x (by simp)) []]
theorem node_row {op n : Int} {v : Val} {row row' : List Val} {l : List Val} (h : 0 < l.length) : nodeV op n v row l = nodeV op n v row' l := by
  match l, h with
  | [_], _ => rfl
  | [_, _], _ => rfl
  | _ :: _ :: _ :: _, _ => rfl
theorem evalL_len (row : List Val) : ∀ l : List Ex, (evalL row l).length = l.length
  | [] => by rw [evalL]; rfl
  | e :: l => by rw [evalL, List.length_cons, evalL_len row l]; rfl
theorem zero_val {v : Val} (h : zeroB v = true) : v = .num 0 := by
  unfold zeroB at h
  simp only [Bool.and_eq_true, decide_eq_true_eq] at h
  obtain ⟨h1, h2, h3⟩ := h
  cases v
  simp only at h1 h2 h3
  subst h1 h2 h3
  rfl
theorem true_clean (v : Val) : trueB (cleanV v) = trueB v := by
  unfold cleanV
  split
  · rename_i h; unfold trueB; rw [h]; rfl
  · rename_i h
    have h' : (v.k == 1) = false := by simpa using h
    split
    · unfold trueB; rw [h']; rfl
    · unfold trueB; rw [h']; rfl
theorem simp_eval (e : Ex) (hg : goodE e) (row : List Val) : evalE row (simpE e) = evalE row e := by
  have hgl := (good_open hg).2
  rcases simp_cases e hg with ⟨h1, h2, h3⟩ | h | ⟨h19, x, y, hxy, h⟩ | ⟨h20, ⟨x, y, hxy, h⟩, h3⟩ | ⟨h21, x, y, z, hxy, hx2, h⟩
  · rw [h3, con_eval, (eval_clean [] e).1, evalE_eq [] e, evalE_eq row e, evalL_consts row e.args hgl h2]
    exact node_row (by rw [evalL_len]; exact h1)
  · rw [h]
  · have e1 : evalE row e = bothV 19 (evalE row x) (evalE row y) := by rw [evalE_eq, hxy, evalL, evalL, evalL, h19]; rfl
    have gx : goodE x := goodL_mem hgl (by rw [hxy]; simp)
    have gy : goodE y := goodL_mem hgl (by rw [hxy]; simp)
    rw [e1]
    rcases h with ⟨hz, h⟩ | ⟨hz, h⟩
    · unfold isZeroE at hz
      simp only [Bool.and_eq_true, beq_iff_eq] at hz
      rw [h, const_eval gx hz.1, zero_val hz.2]
      simp [bothV, falseB, cleanV, Val.num, truthV]
    · unfold isZeroE at hz
      simp only [Bool.and_eq_true, beq_iff_eq] at hz
      rw [h, const_eval gy hz.1, zero_val hz.2]
      simp [bothV, falseB, cleanV, Val.num, truthV]
  · have e1 : evalE row e = bothV 20 (evalE row x) (evalE row y) := by rw [evalE_eq, hxy, evalL, evalL, evalL, h20]; rfl
    have gx : goodE x := goodL_mem hgl (by rw [hxy]; simp)
    have gy : goodE y := goodL_mem hgl (by rw [hxy]; simp)
    rw [e1, h3, con_eval]
    have ht : trueB (evalE row x) = true ∨ trueB (evalE row y) = true := by
      rcases h with h | h <;> unfold isTrueE at h <;> simp only [Bool.and_eq_true, beq_iff_eq] at h
      · left; rw [const_eval gx h.1, true_clean]; exact h.2
      · right; rw [const_eval gy h.1, true_clean]; exact h.2
    unfold bothV
    rw [if_neg (by decide), if_pos rfl, if_pos (by rcases ht with h | h <;> simp [h])]
    rfl
  · have e1 : evalE row e = if trueB (evalE row x) then evalE row y else evalE row z := by rw [evalE_eq, hxy, evalL, evalL, evalL, evalL]; rfl
    have gx : goodE x := goodL_mem hgl (by rw [hxy]; simp)
    rw [e1, const_eval gx hx2, true_clean]
    rcases h with ⟨ht, h⟩ | ⟨ht, h⟩ <;> unfold isTrueE at ht <;> rw [hx2] at ht <;> simp only [beq_self_eq_true, Bool.true_and] at ht <;> rw [h, ht] <;> rfl
theorem simp_good (e : Ex) (hg : goodE e) : goodE (simpE e) := by
  have hgl := (good_open hg).2
  rcases simp_cases e hg with ⟨h1, h2, h3⟩ | h | ⟨h19, x, y, hxy, h⟩ | ⟨h20, ⟨x, y, hxy, h⟩, h3⟩ | ⟨h21, x, y, z, hxy, hx2, h⟩
  · rw [h3]
    exact con_good (Nat.le_trans (clean_size _) (eval_small e hg))
  · rw [h]; exact hg
  · rcases h with ⟨_, h⟩ | ⟨_, h⟩ <;> rw [h] <;> exact goodL_mem hgl (by rw [hxy]; simp)
  · rw [h3]; exact con_good (by decide)
  · rcases h with ⟨_, h⟩ | ⟨_, h⟩ <;> rw [h] <;> exact goodL_mem hgl (by rw [hxy]; simp)
theorem con_fin {v : Val} (h : VOk v) : (conE v).fin := by
  rw [Ex.fin, Ex.fins]
  exact ⟨⟨Nat.zero_le _, h.2, h.1, in64_zero⟩, trivial⟩
theorem simp_fin (e : Ex) (hg : goodE e) (hf : e.fin) : (simpE e).fin := by
  have hfl := (Ex.fin_open hf).2
  rcases simp_cases e hg with ⟨h1, h2, h3⟩ | h | ⟨h19, x, y, hxy, h⟩ | ⟨h20, ⟨x, y, hxy, h⟩, h3⟩ | ⟨h21, x, y, z, hxy, hx2, h⟩
  · rw [h3]
    exact con_fin (eval_ok (by simp) e hf)
  · rw [h]; exact hf
  · rcases h with ⟨_, h⟩ | ⟨_, h⟩ <;> rw [h] <;> exact Ex.fins_mem hfl (by rw [hxy]; simp)
  · rw [h3]; exact con_fin (vok_num ⟨by decide, by decide⟩)
  · rcases h with ⟨_, h⟩ | ⟨_, h⟩ <;> rw [h] <;> exact Ex.fins_mem hfl (by rw [hxy]; simp)
theorem high_mk (e : Ex) : e.high = Ex.highs e.args + 1 := by cases e; rw [Ex.high]; rfl
theorem high_mem : ∀ {l : List Ex} {x : Ex}, x ∈ l → x.high ≤ Ex.highs l
  | [], _, h => by cases h
  | e :: l, x, h => by
    rw [Ex.highs]
    rcases List.mem_cons.1 h with rfl | h
    · omega
    · have := high_mem h; omega
theorem simp_size (e : Ex) (hg : goodE e) : (simpE e).size ≤ e.size ∧ (simpE e).high ≤ e.high := by
  have c1 : ∀ v, (conE v).size ≤ e.size ∧ (conE v).high ≤ e.high := fun v => by
    rw [Ex.size_mk e, high_mk e]
    show (Ex.mk 2 0 v []).size ≤ _ ∧ (Ex.mk 2 0 v []).high ≤ _
    rw [Ex.size, Ex.high, Ex.sizes, Ex.highs]
    omega
  have c2 : ∀ x ∈ e.args, x.size ≤ e.size ∧ x.high ≤ e.high := fun x hx => by
    rw [Ex.size_mk e, high_mk e]
    have := Ex.size_mem hx
    have := high_mem hx
    omega
  rcases simp_cases e hg with ⟨h1, h2, h3⟩ | h | ⟨h19, x, y, hxy, h⟩ | ⟨h20, ⟨x, y, hxy, h⟩, h3⟩ | ⟨h21, x, y, z, hxy, hx2, h⟩
  · rw [h3]; exact c1 _
  · rw [h]; exact ⟨Nat.le_refl _, Nat.le_refl _⟩
  · rcases h with ⟨_, h⟩ | ⟨_, h⟩ <;> rw [h] <;> exact c2 _ (by rw [hxy]; simp)
  · rw [h3]; exact c1 _
  · rcases h with ⟨_, h⟩ | ⟨_, h⟩ <;> rw [h] <;> exact c2 _ (by rw [hxy]; simp)
end Go.Proofs.YtcpndojkfngioaaGreat
set_option linter.unusedSimpArgs false
set_option linter.unusedVariables false
namespace Go.Proofs.YtcpndojkfngioaaGreat
open Go.RowKit Go.Sort

/-- What the parts of a node are made to tells of the node. -/
theorem node_sound (e : Ex) (g : Ex → Ex) : soundE (nodeG g e) = soundE e := by
  have hl : (nodeG g e).args.length = e.args.length := by show (e.args.map (madeE g)).length = _; rw [List.length_map]
  have ho : (nodeG g e).op = e.op := rfl
  have hn : (nodeG g e).n = if e.op == 1 then e.n else 0 := rfl
  have hv : (nodeG g e).v = if e.op == 2 then cleanV e.v else .null := rfl
  unfold soundE
  rw [ho, hl, hn, hv]
  generalize e.op = op
  by_cases h1 : op = 1
  · subst h1; rfl
  · by_cases h2 : op = 2
    · subst h2
      simp [clean_clean]
    · have e1 : (op == 1) = false := by simpa using h1
      have e2 : (op == 2) = false := by simpa using h2
      rw [e1, e2]
      rfl
theorem goodL_of : ∀ (l : List Ex), (∀ x ∈ l, goodE x) → goodL l
  | [], _ => by rw [goodL]; trivial
  | e :: l, h => by rw [goodL]; exact ⟨h e (by simp), goodL_of l fun x hx => h x (by simp [hx])⟩
theorem good_mk (e : Ex) (hs : soundE e = true) (hl : goodL e.args) : goodE e := by
  cases e with
  | mk op n v l => rw [goodE]; exact ⟨hs, hl⟩
theorem fold_ind (Q : Ex → Prop) (h : ∀ e, goodE e → (∀ x ∈ e.args, goodE x ∧ Q x) → Q e) : ∀ e, goodE e → Q e := by
  suffices H : ∀ (k : Nat) (e : Ex), e.size ≤ k → goodE e → Q e from fun e hg => H e.size e (Nat.le_refl _) hg
  intro k
  induction k with
  | zero => intro e hs; rw [Ex.size_mk] at hs; omega
  | succ k ih =>
    intro e hs hg
    refine h e hg fun x hx => ?_
    have hgx := goodL_mem (good_open hg).2 hx
    refine ⟨hgx, ih x ?_ hgx⟩
    have := Ex.size_mem hx
    rw [Ex.size_mk] at hs
    omega
theorem node_good (e : Ex) (hg : goodE e) (h : ∀ x ∈ e.args, goodE (foldE x)) : goodE (nodeG simpE e) := by
  refine good_mk _ (by rw [node_sound]; exact (good_open hg).1) (goodL_of _ fun x hx => ?_)
  obtain ⟨y, hy, rfl⟩ := List.mem_map.1 (show x ∈ e.args.map (madeE simpE) from hx)
  exact h y hy
theorem fold_good : ∀ e, goodE e → goodE (foldE e) := fold_ind _ fun e hg ih => by
  show goodE (madeE simpE e)
  rw [madeE_eq]
  exact simp_good _ (node_good e hg fun x hx => (ih x hx).2)
theorem fold_node (e : Ex) (hg : goodE e) : goodE (nodeG simpE e) := node_good e hg fun x hx => fold_good x (goodL_mem (good_open hg).2 hx)
theorem evalL_map (row : List Val) (g : Ex → Ex) : ∀ (l : List Ex), (∀ x ∈ l, evalE row (g x) = evalE row x) → evalL row (l.map g) = evalL row l
  | [], _ => by rw [List.map_nil]
  | e :: l, h => by rw [List.map_cons, evalL, evalL, h e (by simp), evalL_map row g l fun x hx => h x (by simp [hx])]
theorem node_eval (row : List Val) (e : Ex) (hg : goodE e) (h : ∀ x ∈ e.args, evalE row (foldE x) = evalE row x) : evalE row (nodeG simpE e) = evalE row e := by
  rw [evalE_eq, evalE_eq row e]
  show nodeV e.op (if e.op == 1 then e.n else 0) (if e.op == 2 then cleanV e.v else .null) row (evalL row (e.args.map (madeE simpE))) = _
  rw [evalL_map row (madeE simpE) e.args h]
  cases ha : e.args with
  | nil =>
    rw [evalL]
    simp only [nodeV]
    rcases no_args hg ha with ⟨h1, _⟩ | h2
    · rw [h1]; rfl
    · rw [h2]; simp [clean_clean]
  | cons x l =>
    rw [evalL]
    cases l with
    | nil => rw [evalL]; rfl
    | cons y l =>
      rw [evalL]
      cases l with
      | nil => rw [evalL]; rfl
      | cons z l => rw [evalL]; rfl
theorem fold_eval (row : List Val) : ∀ e, goodE e → evalE row (foldE e) = evalE row e := fold_ind _ fun e hg ih => by
  show evalE row (madeE simpE e) = _
  rw [madeE_eq, simp_eval _ (fold_node e hg)]
  exact node_eval row e hg fun x hx => (ih x hx).2
theorem sizes_map (g : Ex → Ex) : ∀ (l : List Ex), (∀ x ∈ l, (g x).size ≤ x.size ∧ (g x).high ≤ x.high) → Ex.sizes (l.map g) ≤ Ex.sizes l ∧ Ex.highs (l.map g) ≤ Ex.highs l
  | [], _ => by rw [List.map_nil]; exact ⟨Nat.le_refl _, Nat.le_refl _⟩
  | e :: l, h => by
    have h1 := h e (by simp)
    have h2 := sizes_map g l fun x hx => h x (by simp [hx])
    rw [List.map_cons, Ex.sizes, Ex.sizes, Ex.highs, Ex.highs]
    omega
theorem fold_size : ∀ e, goodE e → (foldE e).size ≤ e.size ∧ (foldE e).high ≤ e.high := fold_ind _ fun e hg ih => by
  show (madeE simpE e).size ≤ _ ∧ (madeE simpE e).high ≤ _
  rw [madeE_eq]
  have h1 := simp_size _ (fold_node e hg)
  have h2 := sizes_map (madeE simpE) e.args fun x hx => (ih x hx).2
  have h3 : (nodeG simpE e).size = Ex.sizes (e.args.map (madeE simpE)) + 1 := by rw [Ex.size_mk]; rfl
  have h4 : (nodeG simpE e).high = Ex.highs (e.args.map (madeE simpE)) + 1 := by rw [high_mk]; rfl
  rw [Ex.size_mk e, high_mk e]
  omega
theorem fin_mk (e : Ex) (h : (e.args.length ≤ 140737488355328 ∧ e.v.s.size ≤ 140737488355328 ∧ In64 e.v.n ∧ In64 e.n)) (hl : Ex.fins e.args) : e.fin := by
  cases e with
  | mk op n v l => rw [Ex.fin]; exact ⟨h, hl⟩
theorem node_fin (e : Ex) (hf : e.fin) (h : ∀ x ∈ e.args, (foldE x).fin) : (nodeG simpE e).fin := by
  obtain ⟨⟨h1, h2, h3, h4⟩, _⟩ := Ex.fin_open hf
  refine fin_mk _ ⟨?_, ?_, ?_, ?_⟩ (Ex.fins_of _ fun x hx => ?_)
  · show (e.args.map (madeE simpE)).length ≤ _
    rw [List.length_map]; exact h1
  · show (if e.op == 2 then cleanV e.v else .null).s.size ≤ _
    split
    · exact Nat.le_trans (clean_size _) h2
    · exact Nat.zero_le _
  · show In64 (if e.op == 2 then cleanV e.v else .null).n
    split
    · exact clean_in _ h3
    · exact in64_zero
  · show In64 (if e.op == 1 then e.n else 0)
    split
    · exact h4
    · exact in64_zero
  · obtain ⟨y, hy, rfl⟩ := List.mem_map.1 (show x ∈ e.args.map (madeE simpE) from hx)
    exact h y hy
theorem fold_fin : ∀ e, goodE e → e.fin → (foldE e).fin := fold_ind _ fun e hg ih hf => by
  show (madeE simpE e).fin
  rw [madeE_eq]
  exact simp_fin _ (fold_node e hg) (node_fin e hf fun x hx => (ih x hx).2 (Ex.fins_mem (Ex.fin_open hf).2 hx))
/-- What is folded is folded. -/
theorem fold_again : ∀ e, goodE e → foldE (foldE e) = foldE e := fold_ind _ fun e hg ih => by
  have hN := fold_node e hg
  have hc : ∀ v, cleanV v = v → foldE (conE v) = conE v := fun v hv => by
    show madeE simpE (conE v) = _
    rw [madeE_eq]
    have : nodeG simpE (conE v) = conE v := by
      show Ex.mk 2 0 (if (2 : Int) == 2 then cleanV v else .null) [] = _
      rw [if_pos (by decide), hv]
    rw [this]
    rfl
  have hx : ∀ x ∈ (nodeG simpE e).args, foldE x = x := fun x hx => by
    obtain ⟨y, hy, rfl⟩ := List.mem_map.1 (show x ∈ e.args.map (madeE simpE) from hx)
    exact (ih y hy).2
  have hself : foldE (nodeG simpE e) = simpE (nodeG simpE e) := by
    show madeE simpE (nodeG simpE e) = _
    rw [madeE_eq]
    congr 1
    have ha : (nodeG simpE e).args.map (madeE simpE) = (nodeG simpE e).args := by
      conv => rhs; rw [← List.map_id (nodeG simpE e).args]
      exact List.map_congr_left fun x h => hx x h
    have hn : (if (nodeG simpE e).op == 1 then (nodeG simpE e).n else 0) = (nodeG simpE e).n := by
      show (if e.op == 1 then (if e.op == 1 then e.n else 0) else 0) = (if e.op == 1 then e.n else 0)
      split <;> rfl
    have hv : (if (nodeG simpE e).op == 2 then cleanV (nodeG simpE e).v else .null) = (nodeG simpE e).v := by
      show (if e.op == 2 then cleanV (if e.op == 2 then cleanV e.v else .null) else .null) = (if e.op == 2 then cleanV e.v else .null)
      by_cases h2 : (e.op == 2) = true
      · rw [if_pos h2, if_pos h2, clean_clean]
      · rw [if_neg h2, if_neg h2]
    show Ex.mk _ _ _ _ = _
    rw [ha, hn, hv]
    rfl
  have e1 : foldE e = simpE (nodeG simpE e) := madeE_eq simpE e
  rw [e1]
  rcases simp_cases (nodeG simpE e) hN with ⟨h1, h2, h3⟩ | h | ⟨h19, x, y, hxy, h⟩ | ⟨h20, ⟨x, y, hxy, h⟩, h3⟩ | ⟨h21, x, y, z, hxy, hx2, h⟩
  · rw [h3]
    exact hc _ (eval_clean [] _).1
  · rw [h]
    rw [hself, h]
  · rcases h with ⟨_, h⟩ | ⟨_, h⟩ <;> rw [h] <;> exact hx _ (by rw [hxy]; simp)
  · rw [h3]
    exact hc _ (cl_num 1).1
  · rcases h with ⟨_, h⟩ | ⟨_, h⟩ <;> rw [h] <;> exact hx _ (by rw [hxy]; simp)
/-- What Fold answers. -/
def foldB (e : Ex) : Ex := if builtE e then foldE e else copyT e
theorem fold_built {e : Ex} (h : builtE e = true) : builtE (foldE e) = true := by
  have hg := built_good h
  have h1 := built_bounds h
  have h2 := fold_size e hg
  exact built_of (fold_good e hg) (by omega) (by omega)
theorem copyT_built (e : Ex) : builtE (copyT e) = builtE e := by
  unfold copyT
  split
  · exact built_copy e
  · rfl
theorem copyT_fin2 {e : Ex} (h : e.fin) : (copyT e).fin := by
  unfold copyT
  split
  · exact copy_fin e h
  · exact h
theorem foldB_built (e : Ex) : builtE (foldB e) = builtE e := by
  unfold foldB
  cases h : builtE e with
  | true => rw [if_pos rfl]; exact fold_built h
  | false => rw [if_neg (by simp), copyT_built, h]
theorem foldB_fin {e : Ex} (hf : e.fin) : (foldB e).fin := by
  unfold foldB
  split
  · rename_i h; exact fold_fin e (built_good h) hf
  · exact copyT_fin2 hf
theorem foldB_eval (row : List Val) (e : Ex) : evalB row (foldB e) = evalB row e := by
  unfold evalB
  rw [foldB_built]
  split
  · rename_i h
    unfold foldB
    rw [if_pos h]
    exact fold_eval row e (built_good h)
  · rfl
/-- What Size answers. -/
def sizeB (e : Ex) : Int × Int := if builtE e then ((e.size : Int), (e.high : Int)) else (401, 41)
theorem foldB_size (e : Ex) : (sizeB (foldB e)).1 ≤ (sizeB e).1 ∧ (sizeB (foldB e)).2 ≤ (sizeB e).2 ∧ (sizeB (foldB (foldB e))).1 = (sizeB (foldB e)).1 := by
  have hb := foldB_built e
  have hb2 := foldB_built (foldB e)
  cases h : builtE e with
  | true =>
    have hg := built_good h
    have e1 : foldB e = foldE e := by unfold foldB; rw [if_pos h]
    have hf := fold_built h
    have e2 : foldB (foldE e) = foldE e := by
      unfold foldB
      rw [if_pos hf]
      exact fold_again e hg
    rw [e1, e2]
    have := fold_size e hg
    unfold sizeB
    rw [if_pos h, if_pos hf]
    simp only
    exact ⟨by omega, by omega, by trivial⟩
  | false =>
    rw [h] at hb
    rw [hb] at hb2
    have s0 : ∀ x, builtE x = false → sizeB x = (401, 41) := fun x hx => by unfold sizeB; rw [if_neg (by simp [hx])]
    rw [s0 e h, s0 _ hb, s0 _ hb2]
    exact ⟨Int.le_refl _, Int.le_refl _, rfl⟩
end Go.Proofs.YtcpndojkfngioaaGreat
set_option linter.unusedSimpArgs false
set_option linter.unusedVariables false
set_option maxRecDepth 100000
namespace Go.Proofs.YtcpndojkfngioaaGreat
open Go.RowKit Go.Sort

theorem wpOp_noR {P : Program} {ops : Array Oper} {Q : Exit → Act → World → Prop} {i : Nat} {o : Oper} {r : List Oper} {a : Act} {w : World} {K : Act → World → Prop} (hi : ops.toList.drop i = o :: r) (hw : Region.wanted o (yielded ops a.tmps) = false)
    (h : K (a.put o.dst undef) w) : wpOp P ops Q i K a w := by
  unfold wpOp
  rw [drop_at hi]
  simp only [hw, Bool.false_eq_true, if_false]
  exact h
mutual
/-- The document's way to measure: nodes and height are counted on, from the top. -/
def rmE : Ex → Int → Int → Int × Int × Bool
  | .mk op n v l, N, H => if decide (400 < N) || decide (40 < H) then (N + 1, H, false) else
    if (rmL l (N + 1) H H).2.2 then ((rmL l (N + 1) H H).1, (rmL l (N + 1) H H).2.1, soundE (.mk op n v l)) else ((rmL l (N + 1) H H).1, (rmL l (N + 1) H H).2.1, false)
def rmL : List Ex → Int → Int → Int → Int × Int × Bool
  | [], N, _, T => (N, T, true)
  | a :: l, N, H, T => if (rmE a N (H + 1)).2.2 then rmL l (rmE a N (H + 1)).1 H (max T (rmE a N (H + 1)).2.1) else ((rmE a N (H + 1)).1, max T (rmE a N (H + 1)).2.1, false)
end
theorem rmE_eq (e : Ex) (N H : Int) : rmE e N H = if decide (400 < N) || decide (40 < H) then (N + 1, H, false) else
    if (rmL e.args (N + 1) H H).2.2 then ((rmL e.args (N + 1) H H).1, (rmL e.args (N + 1) H H).2.1, soundE e) else ((rmL e.args (N + 1) H H).1, (rmL e.args (N + 1) H H).2.1, false) := by
  cases e; rw [rmE]; rfl
mutual
theorem rm_yes : ∀ (e : Ex) (N H : Int), (rmE e N H).2.2 = true → goodE e ∧ (rmE e N H).1 = N + e.size ∧ (rmE e N H).2.1 = H + e.high - 1 ∧ (rmE e N H).1 ≤ 401 ∧ N ≤ 400
  | .mk op n v l, N, H, h => by
    rw [rmE] at h ⊢
    by_cases h1 : (decide (400 < N) || decide (40 < H)) = true
    · rw [if_pos h1] at h; cases h
    · rw [if_neg h1] at h ⊢
      simp only [Bool.or_eq_true, decide_eq_true_eq, not_or] at h1
      by_cases h2 : (rmL l (N + 1) H H).2.2 = true
      · rw [if_pos h2] at h ⊢
        simp only at h ⊢
        obtain ⟨g1, g2, g3, g4⟩ := rmL_yes l (N + 1) H H (Int.le_refl _) h2
        rw [goodE, Ex.size, Ex.high]
        exact ⟨⟨h, g1⟩, by omega, by omega, g4 (by omega), by omega⟩
      · rw [if_neg h2] at h; cases h
theorem rmL_yes : ∀ (l : List Ex) (N H T : Int), H ≤ T → (rmL l N H T).2.2 = true → goodL l ∧ (rmL l N H T).1 = N + Ex.sizes l ∧ (rmL l N H T).2.1 = max T (H + Ex.highs l) ∧ (N ≤ 401 → (rmL l N H T).1 ≤ 401)
  | [], N, H, T, hT, h => by
    rw [rmL, goodL, Ex.sizes, Ex.highs]
    exact ⟨trivial, by omega, by simp only; omega, fun h => h⟩
  | a :: l, N, H, T, hT, h => by
    rw [rmL] at h ⊢
    by_cases h1 : (rmE a N (H + 1)).2.2 = true
    · rw [if_pos h1] at h ⊢
      obtain ⟨g1, g2, g3, g4, g5⟩ := rm_yes a N (H + 1) h1
      obtain ⟨k1, k2, k3, k4⟩ := rmL_yes l _ H _ (by omega) h
      rw [goodL, Ex.sizes, Ex.highs]
      exact ⟨⟨g1, k1⟩, by omega, by omega, fun _ => k4 g4⟩
    · rw [if_neg h1] at h; cases h
end
mutual
theorem rm_good : ∀ (e : Ex) (N H : Int), goodE e → N + e.size ≤ 401 → H + e.high ≤ 41 → rmE e N H = (N + e.size, H + e.high - 1, true)
  | .mk op n v l, N, H, hg, h1, h2 => by
    rw [Ex.size] at h1
    rw [Ex.high] at h2
    obtain ⟨hs, hl⟩ := good_open hg
    have hs : soundE (.mk op n v l) = true := hs
    have hr := rmL_good l (N + 1) H H hl (by omega) (by omega) (Int.le_refl _)
    rw [rmE, if_neg (by simp only [Bool.or_eq_true, decide_eq_true_eq, not_or]; omega), hr]
    simp only [if_true]
    rw [hs, Ex.size, Ex.high]
    simp only [Prod.mk.injEq, and_true]
    constructor <;> omega
theorem rmL_good : ∀ (l : List Ex) (N H T : Int), goodL l → N + Ex.sizes l ≤ 401 → H + Ex.highs l ≤ 40 → H ≤ T → rmL l N H T = (N + Ex.sizes l, max T (H + Ex.highs l), true)
  | [], N, H, T, _, _, _, hT => by
    rw [rmL, Ex.sizes, Ex.highs]
    simp only [Prod.mk.injEq, and_true]
    constructor <;> omega
  | a :: l, N, H, T, hg, h1, h2, hT => by
    rw [goodL] at hg
    rw [Ex.sizes] at h1
    rw [Ex.highs] at h2
    rw [rmL, rm_good a N (H + 1) hg.1 (by omega) (by omega)]
    simp only [if_true]
    rw [rmL_good l _ H _ hg.2 (by omega) (by omega) (by omega), Ex.sizes, Ex.highs]
    simp only [Prod.mk.injEq, and_true]
    constructor <;> omega
end
mutual
theorem rm_range : ∀ (e : Ex) (N H : Int), 0 ≤ N → N ≤ 401 → 1 ≤ H → H ≤ 41 → 0 ≤ (rmE e N H).1 ∧ (rmE e N H).1 ≤ 402 ∧ 1 ≤ (rmE e N H).2.1 ∧ (rmE e N H).2.1 ≤ 41
  | .mk op n v l, N, H, h1, h2, h3, h4 => by
    rw [rmE]
    by_cases hc : (decide (400 < N) || decide (40 < H)) = true
    · rw [if_pos hc]; simp only; omega
    · rw [if_neg hc]
      simp only [Bool.or_eq_true, decide_eq_true_eq, not_or] at hc
      have := rmL_range l (N + 1) H H (by omega) (by omega) h3 (by omega) (by omega) (by omega)
      split <;> simp only <;> omega
theorem rmL_range : ∀ (l : List Ex) (N H T : Int), 0 ≤ N → N ≤ 401 → 1 ≤ H → H ≤ 40 → 1 ≤ T → T ≤ 41 → 0 ≤ (rmL l N H T).1 ∧ (rmL l N H T).1 ≤ 402 ∧ 1 ≤ (rmL l N H T).2.1 ∧ (rmL l N H T).2.1 ≤ 41
  | [], N, H, T, h1, h2, h3, h4, h5, h6 => by rw [rmL]; simp only; omega
  | a :: l, N, H, T, h1, h2, h3, h4, h5, h6 => by
    have hr := rm_range a N (H + 1) h1 h2 (by omega) (by omega)
    rw [rmL]
    split
    · rename_i hy
      have hy2 := (rm_yes a N (H + 1) hy).2.2.2.1
      exact rmL_range l _ H _ (by omega) (by omega) h3 h4 (by omega) (by omega)
    · simp only; omega
end
/-- What the document's Size answers is what the program's does. -/
theorem rm_size (e : Ex) : (if !(rmE e 0 1).2.2 || decide (400 < (rmE e 0 1).1) || decide (40 < (rmE e 0 1).2.1) then ((401 : Int), (41 : Int)) else ((rmE e 0 1).1, (rmE e 0 1).2.1)) = sizeB e := by
  cases hb : builtE e with
  | true =>
    have hg := built_good hb
    have h1 := built_bounds hb
    rw [rm_good e 0 1 hg (by omega) (by omega)]
    unfold sizeB
    rw [if_pos hb, if_neg (by simp; omega)]
    simp only [Prod.mk.injEq]
    constructor <;> omega
  | false =>
    unfold sizeB
    rw [hb]
    by_cases hc : (!(rmE e 0 1).2.2 || decide (400 < (rmE e 0 1).1) || decide (40 < (rmE e 0 1).2.1)) = true
    · rw [if_pos hc]; rfl
    · exfalso
      simp only [Bool.or_eq_true, decide_eq_true_eq, not_or, Bool.not_eq_true', Bool.not_eq_false] at hc
      obtain ⟨⟨c1, c2⟩, c3⟩ := hc
      obtain ⟨g1, g2, g3, _⟩ := rm_yes e 0 1 c1
      rw [built_of g1 (by omega) (by omega)] at hb
      cases hb
theorem size_built (e : Ex) : decide ((sizeB e).1 ≤ 400) = builtE e := by
  unfold sizeB
  cases hb : builtE e with
  | true =>
    have := (built_bounds hb).1
    simp only [if_true]
    simpa using (by omega : (e.size : Int) ≤ 400)
  | false => rfl
end Go.Proofs.YtcpndojkfngioaaGreat
