import Derived.Test.YtfnacpkodfhfoadExL
import Derived.Test.YtfnacpkodfhfoadExK
import Derived.Test.YtfnacpkodfhfoadExO
set_option linter.unusedSimpArgs false
set_option linter.unusedVariables false
namespace Go.Proofs.Ytfnacpkodfhfoad
open Go.RowKit Go.Sort
/-- What Strict says. -/
def strictE (cols : List Int) (e : Ex) : Bool := builtE e && ntE cols e
/-- Strict (6): built, and never true where the columns are null. -/
theorem strict_any (cols : List Int) (e : Ex) (hf : e.fin) (hl : cols.length ≤ 140737488355328) (aC : Option Addr) (cC : Nat) (a : Option Addr) (c : Nat) (w : World) (hC : IntsAt w aC cols) (ha : Ex.all w a e.args) :
    Calls Try.prog 6 #[e.val a c, .slice aC cols.length cC] w fun r w' => r = .returned (.bool (strictE cols e)) ∧ Below w.heap.size w w' := by
  have HB := hide (fun o => built_any e hf a c (w.alloc o) (Ex.all_later _ ha (below_alloc (Below.refl _ _) o)))
  have HN := hide (fun (hg : goodE e) (W : World) (hW : Below w.heap.size w W) => never_all cols aC cC hl e.size e (Nat.le_refl _) hf hg a c W (hC.later hW) (Ex.all_later _ ha hW))
  have H6 : Hid (Six (w.alloc (.cells #[.int .i64 e.op, .int .i64 e.n, .int .i64 e.v.k, .int .i64 e.v.n, .string e.v.s, .slice a e.args.length c] 26)) w.heap.size e a c) := Six.new w e a c
  have HG := hide (built_good (e := e))
  have HR : Hid (strictE cols e = (builtE e && ntE cols e)) := hide rfl
  generalize strictE cols e = res at *
  clear hC ha
  rw [Ex.val_open] at HB HN ⊢
  rcases Bool.eq_false_or_eq_true (builtE e) with hb | hb
  · have HN := hide (unhide HN (unhide HG hb))
    rw [hb] at HB HR
    generalize ntE cols e = nt at *
    go_enter Try.func6, Try.ntmps6
    go_wp2_with (first
      | (go_at_call 14; refine (unhide HN _ hB1).mono ?_; rintro r w2 ⟨rfl, hb2⟩)
      | (go_at_call 13; refine (unhide HB _).mono ?_; rintro r w1 ⟨rfl, hb1⟩; have hB1 := below_one hb1; obtain ⟨b0, b1, b2, b3, b4, b5⟩ := (unhide H6).later hb1))
    go_ret
    exact ⟨by rw [unhide HR]; simp, below_step hB1 hb2⟩
  · rw [hb] at HB HR
    go_enter Try.func6, Try.ntmps6
    go_wp2_with (go_at_call 13; refine (unhide HB _).mono ?_; rintro r w1 ⟨rfl, hb1⟩)
    go_ret
    exact ⟨by rw [unhide HR]; simp, below_one hb1⟩
end Go.Proofs.Ytfnacpkodfhfoad
