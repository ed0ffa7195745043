import Derived.Test.YtfnacpkodfhfoacPuD
import Derived.Test.YtfnacpkodfhfoacEsOpen
set_option linter.unusedSimpArgs false
set_option linter.unusedVariables false
namespace Go.Proofs.Ytfnacpkodfhfoac
open Go.RowKit Go.Sort

def colZ : Ex := .mk 1 0 .null []
def by7 : List Ex := [.mk 2 0 (.num 7) []]
theorem col_fin : colZ.fin := by
  unfold colZ
  simp only [Ex.fin, Ex.fins]
  exact ⟨⟨by decide, by decide, ⟨by decide, by decide⟩, ⟨by decide, by decide⟩⟩, trivial⟩
theorem by7_fin : Ex.fins by7 := by
  unfold by7
  simp only [Ex.fin, Ex.fins]
  exact ⟨⟨⟨by decide, by decide, ⟨by decide, by decide⟩, ⟨by decide, by decide⟩⟩, trivial⟩, trivial⟩
theorem seven_ok : okP by7 colZ = true := by decide
theorem seven_is : madeE (putG by7) colZ = .mk 2 0 (.num 7) [] := by kernel_rfl
theorem seven_val : evalB [] (.mk 2 0 (.num 7) []) = .num 7 := by kernel_rfl
theorem seven_fin : (Ex.mk 2 0 (.num 7) []).fin := by
  simp only [Ex.fin, Ex.fins]
  exact ⟨⟨by decide, by decide, ⟨by decide, by decide⟩, ⟨by decide, by decide⟩⟩, trivial⟩
theorem seven_at (w : World) : Ex.all (w.alloc (.cells #[.int .i64 2, .int .i64 0, .int .i64 1, .int .i64 7, .string ⟨#[]⟩, .slice none 0 0] 26)) (some ⟨w.heap.size, 0, none⟩) by7 := by
  show Ex.all _ _ [.mk 2 0 (.num 7) []]
  simp only [Ex.all]
  refine ⟨_, _, rfl, ?_, trivial⟩
  rw [Ex.at]
  refine ⟨none, 0, ⟨?_, ?_, ?_, ?_, ?_, ?_⟩, by rw [Ex.all]; trivial⟩ <;> simp [go_sem, Val.num]
theorem seven_put (w : World) : Calls Try.prog 10 #[.agg #[.int .i64 1, .int .i64 0, .int .i64 0, .int .i64 0, .string ⟨#[]⟩, .slice none 0 0], .slice (some ⟨w.heap.size, 0, none⟩) 1 1] (w.alloc (.cells #[.int .i64 2, .int .i64 0, .int .i64 1, .int .i64 7, .string ⟨#[]⟩, .slice none 0 0] 26)) fun r w' => ∃ a2 c2, r = .returned (.tuple #[(Ex.mk 2 0 (.num 7) []).val a2 c2, .int .i64 0]) ∧ Below w.heap.size w w' := by
  have h := put_any by7 by7_fin (by show 1 ≤ 140737488355328; decide) (some ⟨w.heap.size, 0, none⟩) 1 colZ col_fin none 0 (w.alloc (.cells #[.int .i64 2, .int .i64 0, .int .i64 1, .int .i64 7, .string ⟨#[]⟩, .slice none 0 0] 26)) (by show Ex.all _ _ []; rw [Ex.all]; trivial) (seven_at w)
  refine h.mono fun r w' hp => ?_
  rcases hp with ⟨_, _, _, _, a2, c2, h1, _, h3⟩ | ⟨er, _, h2, _⟩
  · rw [seven_is] at h1
    exact ⟨a2, c2, h1, below_one h3⟩
  · rw [seven_ok] at h2
    cases h2
theorem seven_eval (a : Option Addr) (c : Nat) (w : World) : Calls Try.prog 16 #[(Ex.mk 2 0 (.num 7) []).val a c, .slice none 0 0] w fun r w' => r = .returned (Val.num 7).v ∧ Below w.heap.size w w' := by
  have h := evals_any (.mk 2 0 (.num 7) []) seven_fin [] (by simp) (by decide) a none c 0 w (by show Ex.all _ _ []; rw [Ex.all]; trivial) (.inl rfl)
  rw [seven_val] at h
  exact h
set_option maxHeartbeats 1000000 in
set_option maxRecDepth 100000 in
theorem seven_any (w : World) : Calls Try.prog 17 #[] w fun r w' => r = .returned (.bool true) ∧ Below w.heap.size w w' := by
  have hfld : ∀ W, (Instr.field 23 (.agg #[.int .i64 (Val.num 7).k, .int .i64 (Val.num 7).n, .string (Val.num 7).s]) 1).run Try.prog W = .ok (.int .i64 7) W := fun W => by kernel_rfl
  have HP := hide (seven_put w)
  have HE := hide (fun a c W => seven_eval a c W)
  go_enter Try.func17, Try.ntmps17
  go_wp2_with (first
    | (go_at_call 16; refine (unhide HE a2 c2 _).mono ?_; rintro r w2 ⟨rfl, hb2⟩; rw [Val.open_])
    | (go_at_call 10; refine (unhide HP).mono ?_; rintro r w1 ⟨a2, c2, rfl, hb1⟩; rw [Ex.val_open]))
  go_ret
  exact ⟨rfl, below_step (below_alloc hb1 _) hb2⟩
end Go.Proofs.Ytfnacpkodfhfoac
