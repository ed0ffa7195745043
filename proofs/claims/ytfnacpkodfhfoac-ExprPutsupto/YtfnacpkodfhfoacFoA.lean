import Derived.Test.YtfnacpkodfhfoacExV
import Derived.Test.YtfnacpkodfhfoacPaG
set_option linter.unusedSimpArgs false
set_option linter.unusedVariables false
namespace Go.Proofs.Ytfnacpkodfhfoac
open Go.RowKit Go.Sort

/-! Values that are clean, and small. -/
def CleanB (v : Val) : Prop := cleanV v = v ∧ (v.k ≠ 2 → v.s = ⟨#[]⟩)
theorem cl_num (n : Int) : CleanB (.num n) := ⟨by simp [cleanV, Val.num], fun _ => rfl⟩
theorem cl_null : CleanB .null := ⟨by simp [cleanV, Val.null], fun _ => rfl⟩
theorem cl_str (s : ByteArray) : CleanB (.str s) := ⟨by simp [cleanV, Val.str], fun h => absurd rfl h⟩
theorem cl_clean (v : Val) : CleanB (cleanV v) := by
  unfold cleanV
  split
  · exact cl_num _
  · split
    · exact cl_str _
    · exact cl_null
theorem cl_truth (b : Bool) : CleanB (truthV b) := cl_num _
theorem cl_reck (op : Int) (a b : Val) : CleanB (reckV op a b) := by
  unfold reckV
  split
  · cases reck op a.n b.n with
    | none => exact cl_null
    | some n => exact cl_num _
  · exact cl_null
theorem cl_not (a : Val) : CleanB (notV a) := by unfold notV; split; exact cl_truth _; exact cl_null
theorem cl_test (op : Int) (a b : Val) : CleanB (testV op a b) := by
  unfold testV
  split
  · exact cl_null
  · unfold testR
    cases testB op (ordV a b) with
    | none => exact cl_null
    | some t => exact cl_truth _
theorem cl_cat (a b : Val) : CleanB (catV a b) := by unfold catV; split; exact cl_str _; exact cl_null
theorem cl_both (op : Int) (a b : Val) : CleanB (bothV op a b) := by
  unfold bothV
  repeat' split
  all_goals first | exact cl_truth _ | exact cl_null
theorem cl_one (op : Int) (x : Val) : CleanB (oneV op x) := by
  unfold oneV
  repeat' split
  all_goals first | exact cl_reck _ _ _ | exact cl_not _ | exact cl_num _ | exact cl_null
theorem cl_two (op : Int) (x y : Val) : CleanB (twoV op x y) := by
  unfold twoV
  repeat' split
  all_goals first | exact cl_reck _ _ _ | exact cl_test _ _ _ | exact cl_cat _ _ | exact cl_both _ _ _
mutual
theorem eval_clean (row : List Val) : ∀ (e : Ex), CleanB (evalE row e)
  | .mk op n v l => by
    have hl := evalL_clean row l
    rw [evalE]
    cases hx : evalL row l with
    | nil =>
      simp only [nodeV]
      repeat' split
      all_goals first | exact cl_clean _ | exact cl_null
    | cons x r =>
      rw [hx] at hl
      cases r with
      | nil => exact cl_one op x
      | cons y r =>
        cases r with
        | nil => exact cl_two op x y
        | cons z r =>
          simp only [nodeV]
          split
          · exact hl y (by simp)
          · exact hl z (by simp)
theorem evalL_clean (row : List Val) : ∀ (l : List Ex), ∀ v ∈ evalL row l, CleanB v
  | [], v, h => by rw [evalL] at h; cases h
  | e :: l, v, h => by
    rw [evalL] at h
    rcases List.mem_cons.1 h with rfl | h
    · exact eval_clean row e
    · exact evalL_clean row l v h
end
def Small (v : Val) : Prop := v.s.size ≤ 1000
theorem sm_num (n : Int) : Small (.num n) := Nat.zero_le _
theorem sm_null : Small .null := Nat.zero_le _
theorem sm_of {v : Val} (h : CleanB v) (hk : v.k ≠ 2) : Small v := by unfold Small; rw [h.2 hk]; exact Nat.zero_le _
theorem sm_reck (op : Int) (a b : Val) : Small (reckV op a b) := by
  unfold reckV
  split
  · cases reck op a.n b.n with
    | none => exact sm_null
    | some n => exact sm_num _
  · exact sm_null
theorem sm_not (a : Val) : Small (notV a) := by unfold notV; split; exact sm_num _; exact sm_null
theorem sm_test (op : Int) (a b : Val) : Small (testV op a b) := by
  unfold testV
  split
  · exact sm_null
  · unfold testR
    cases testB op (ordV a b) with
    | none => exact sm_null
    | some t => exact sm_num _
theorem sm_cat (a b : Val) : Small (catV a b) := by
  unfold catV
  split
  · rename_i h
    simp only [Bool.and_eq_true, decide_eq_true_eq] at h
    show (a.s ++ b.s).size ≤ 1000
    rw [ByteArray.size_append]
    exact h.2
  · exact sm_null
theorem sm_both (op : Int) (a b : Val) : Small (bothV op a b) := by
  unfold bothV
  repeat' split
  all_goals first | exact sm_num _ | exact sm_null
theorem sm_one (op : Int) (x : Val) : Small (oneV op x) := by
  unfold oneV
  repeat' split
  all_goals first | exact sm_reck _ _ _ | exact sm_not _ | exact sm_num _ | exact sm_null
theorem sm_two (op : Int) (x y : Val) : Small (twoV op x y) := by
  unfold twoV
  repeat' split
  all_goals first | exact sm_reck _ _ _ | exact sm_test _ _ _ | exact sm_cat _ _ | exact sm_both _ _ _
mutual
theorem eval_small : ∀ (e : Ex), goodE e → Small (evalE [] e)
  | .mk op n v l, hg => by
    have hl := evalL_small l (good_open hg).2
    have hn := no_args hg
    have hs := (good_open hg).1
    rw [evalE]
    cases l with
    | nil =>
      rw [evalL]
      simp only [nodeV]
      split
      · rename_i h2
        have h2 : op = 2 := by simpa using h2
        subst h2
        unfold soundE at hs
        simp only [Bool.and_eq_true] at hs
        have h3 := hs.2
        have h4 : (if (2 : Int) == 1 then decide (0 ≤ n) else if (2 : Int) == 2 then decide ((cleanV v).s.size ≤ 1000) else true) = true := h3
        rw [if_neg (by decide), if_pos (by decide)] at h4
        show (cleanV v).s.size ≤ 1000
        exact of_decide_eq_true h4
      · rename_i h2
        rcases hn rfl with ⟨h1, h0⟩ | h1
        · have h0 : 0 ≤ n := h0
          rw [if_pos (by simpa using h0)]
          exact sm_null
        · exact absurd (show op = 2 from h1) (by simpa using h2)
    | cons x l =>
      cases l with
      | nil => rw [evalL, evalL]; exact sm_one op _
      | cons y l =>
        cases l with
        | nil => rw [evalL, evalL, evalL]; exact sm_two op _ _
        | cons z l =>
          rw [evalL, evalL, evalL] at hl ⊢
          simp only [nodeV]
          split
          · exact hl _ (by simp)
          · exact hl _ (by simp)
theorem evalL_small : ∀ (l : List Ex), goodL l → ∀ v ∈ evalL [] l, Small v
  | [], _, v, h => by rw [evalL] at h; cases h
  | e :: l, hg, v, h => by
    rw [goodL] at hg
    rw [evalL] at h
    rcases List.mem_cons.1 h with rfl | h
    · exact eval_small e hg.1
    · exact evalL_small l hg.2 v h
end
/-! How high an expression is; what measured tells. -/
mutual
def Ex.high : Ex → Nat
  | .mk _ _ _ l => Ex.highs l + 1
def Ex.highs : List Ex → Nat
  | [] => 0
  | e :: l => max e.high (Ex.highs l)
end
mutual
theorem meas_size : ∀ (e : Ex) (N H : Int), goodE e → (e.size : Int) ≤ N → (e.high : Int) ≤ H → measE soundE e N H = ((e.size : Int), (e.high : Int), true)
  | .mk op n v l, N, H, hg, h1, h2 => by
    rw [Ex.size] at h1
    rw [Ex.high] at h2
    obtain ⟨hs, hl⟩ := good_open hg
    have hs : soundE (.mk op n v l) = true := hs
    rw [measE, hs, if_neg (by simp only [Bool.or_eq_true, decide_eq_true_eq, Bool.not_true, not_or]; exact ⟨⟨by omega, by omega⟩, by simp⟩)]
    rw [measL_size l N H 1 0 hl (by omega) (by omega) (by omega) (by omega)]
    simp only [Prod.mk.injEq, and_true]
    rw [Ex.size, Ex.high]
    constructor
    · omega
    · omega
theorem measL_size : ∀ (l : List Ex) (N H c h : Int), goodL l → 0 ≤ c → 0 ≤ h → c + (Ex.sizes l : Int) ≤ N → (Ex.highs l : Int) ≤ H - 1 → measL soundE l N H c h = some (c + (Ex.sizes l : Int), max h (Ex.highs l : Int))
  | [], N, H, c, h, _, _, hh, _, _ => by
    rw [measL, Ex.sizes, Ex.highs]
    simp only [Option.some.injEq, Prod.mk.injEq]
    constructor <;> omega
  | e :: l, N, H, c, h, hg, hc, hh, h1, h2 => by
    rw [goodL] at hg
    rw [Ex.sizes] at h1
    rw [Ex.highs] at h2
    rw [measL, meas_size e (N - c) (H - 1) hg.1 (by omega) (by omega)]
    simp only [if_true]
    rw [measL_size l N H _ _ hg.2 (by omega) (by omega) (by omega) (by omega), Ex.sizes, Ex.highs]
    simp only [Option.some.injEq, Prod.mk.injEq]
    constructor <;> omega
end
mutual
theorem meas_eq : ∀ (e : Ex) (N H : Int) {c h : Int}, measE soundE e N H = (c, h, true) → c = (e.size : Int) ∧ h = (e.high : Int)
  | .mk op n v l, N, H, c, h, he => by
    rw [measE] at he
    split at he
    · injection he with _ he; injection he with _ he; cases he
    · cases hm : measL soundE l N H 1 0 with
      | none => rw [hm] at he; simp only at he; injection he with _ he; injection he with _ he; cases he
      | some q =>
        rw [hm] at he
        simp only at he
        injection he with e1 e2
        injection e2 with e2 _
        have := measL_eq l N H 1 0 (c' := q.1) (h' := q.2) hm
        rw [Ex.size, Ex.high]
        omega
theorem measL_eq : ∀ (l : List Ex) (N H c h : Int) {c' h' : Int}, measL soundE l N H c h = some (c', h') → c' = c + (Ex.sizes l : Int) ∧ (0 ≤ h → h' = max h (Ex.highs l : Int))
  | [], N, H, c, h, c', h', he => by
    rw [measL] at he
    injection he with he; injection he with e1 e2
    rw [Ex.sizes, Ex.highs]
    constructor
    · omega
    · intro h0; omega
  | e :: l, N, H, c, h, c', h', he => by
    rw [measL] at he
    split at he
    · rename_i hok
      obtain ⟨c2, h2', ok, hm⟩ : ∃ c2 h2 ok, measE soundE e (N - c) (H - 1) = (c2, h2, ok) := ⟨_, _, _, rfl⟩
      rw [hm] at he hok
      simp only at he hok
      subst hok
      have g := meas_eq e (N - c) (H - 1) hm
      have := measL_eq l N H _ _ he
      rw [Ex.sizes, Ex.highs]
      constructor
      · omega
      · intro h0; have := this.2 (by omega); omega
    · cases he
end
theorem built_size {e : Ex} (h : builtE e = true) : measE soundE e 400 40 = ((e.size : Int), (e.high : Int), true) := by
  obtain ⟨c, h2, ok, hm⟩ : ∃ c h2 ok, measE soundE e 400 40 = (c, h2, ok) := ⟨_, _, _, rfl⟩
  unfold builtE at h
  rw [hm] at h
  simp only at h
  subst h
  obtain ⟨h1, h2⟩ := meas_eq e 400 40 hm
  rw [hm, h1, h2]
theorem built_of {e : Ex} (hg : goodE e) (h1 : e.size ≤ 400) (h2 : e.high ≤ 40) : builtE e = true := by
  unfold builtE
  rw [meas_size e 400 40 hg (by omega) (by omega)]
theorem built_bounds {e : Ex} (h : builtE e = true) : e.size ≤ 400 ∧ e.high ≤ 40 := by
  have := meas_le soundE e 400 40 (built_size h)
  omega
end Go.Proofs.Ytfnacpkodfhfoac
