import Derived.Test.YtfnacpkodfhfoacExE
set_option linter.unusedSimpArgs false
set_option linter.unusedVariables false
namespace Go.Proofs.Ytfnacpkodfhfoac
open Go.RowKit Go.Sort

mutual
/-- Each node is one that may be. -/
def goodE : Ex → Prop
  | .mk op n v l => soundE (.mk op n v l) = true ∧ goodL l
def goodL : List Ex → Prop
  | [] => True
  | e :: l => goodE e ∧ goodL l
end
theorem good_open {e : Ex} (h : goodE e) : soundE e = true ∧ goodL e.args := by
  cases e with
  | mk op n v l => rw [goodE] at h; exact h
theorem goodL_mem : ∀ {l : List Ex} {x : Ex}, goodL l → x ∈ l → goodE x
  | [], _, _, h => by cases h
  | e :: l, x, hf, h => by
    rw [goodL] at hf
    rcases List.mem_cons.1 h with rfl | h
    · exact hf.1
    · exact goodL_mem hf.2 h
theorem good_arg {e x : Ex} {i : Nat} (h : goodE e) (hx : e.args[i]? = some x) : goodE x := goodL_mem (good_open h).2 (List.mem_of_getElem? hx)
mutual
theorem meas_good : ∀ (e : Ex) (N H : Int), (measE soundE e N H).2.2 = true → goodE e
  | .mk op n v l, N, H, he => by
    rw [measE] at he
    split at he
    · cases he
    · rename_i hc
      simp only [Bool.or_eq_true, Bool.not_eq_true', not_or] at hc
      cases hm : measL soundE l N H 1 0 with
      | none => rw [hm] at he; cases he
      | some q =>
        rw [goodE]
        exact ⟨by simpa using hc.2, measL_good l N H 1 0 (by rw [hm]; rfl)⟩
theorem measL_good : ∀ (l : List Ex) (N H c h : Int), (measL soundE l N H c h).isSome = true → goodL l
  | [], N, H, c, h, he => by rw [goodL]; trivial
  | e :: l, N, H, c, h, he => by
    rw [measL] at he
    split at he
    · rename_i hok
      rw [goodL]
      exact ⟨meas_good e _ _ hok, measL_good l _ _ _ _ he⟩
    · cases he
end
theorem built_good {e : Ex} (h : builtE e = true) : goodE e := meas_good e _ _ h
theorem sound_len {e : Ex} (h : soundE e = true) : (e.args.length : Int) = arI e.op := by
  unfold soundE at h
  simp only [Bool.and_eq_true, beq_iff_eq] at h
  exact h.1
theorem two_args {e : Ex} (h : goodE e) (ho : arI e.op = 2) : ∃ x y, e.args = [x, y] := by
  have hl := sound_len (good_open h).1
  rw [ho] at hl
  match he : e.args, hl with
  | [x, y], _ => exact ⟨x, y, rfl⟩
  | [], hl => simp at hl
  | [_], hl => simp at hl
  | _ :: _ :: _ :: _, hl => simp at hl; omega
end Go.Proofs.Ytfnacpkodfhfoac
