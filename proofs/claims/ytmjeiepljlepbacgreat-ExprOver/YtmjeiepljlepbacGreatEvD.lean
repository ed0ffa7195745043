import Derived.Test.YtmjeiepljlepbacGreatEvC
import Derived.Test.YtmjeiepljlepbacGreatExJ
import Derived.Test.YtmjeiepljlepbacGreatLongR
set_option linter.unusedSimpArgs false
set_option linter.unusedVariables false
namespace Go.Proofs.YtmjeiepljlepbacGreat
open Go.RowKit Go.Sort

/-- tallyref.eval (73), where each node is one that may be. -/
theorem reval_all (row : List Val) (hv : ∀ x ∈ row, VOk x) (hrl : row.length ≤ 140737488355328) (aR : Option Addr) (cR : Nat) : ∀ (k : Nat) (e : Ex), e.size ≤ k → e.fin → goodE e → ∀ (a : Option Addr) (c : Nat) (w : World), Ex.all w a e.args → RowAt w aR row → Calls Tryz.prog 73 #[e.val a c, .slice aR row.length cR] w fun r w' => r = .returned (evalE row e).v ∧ Below w.heap.size w w'
  | 0, e, hs, _, _, _, _, _, _, _ => by rw [Ex.size_mk] at hs; omega
  | k + 1, e, hs, hf, hg, a, c, w, ha, hr => reval_step (fun op x y hx hy W => rreckon_any op x y hx hy W) row hrl aR cR e hf hg (fun x hx => eval_ok hv x (Ex.fins_mem (Ex.fin_open hf).2 hx)) a c w ha hr fun i x hx a' c' W hW hR => reval_all row hv hrl aR cR k x (by have := Ex.size_arg hx; omega) (Ex.fin_arg hf hx) (good_arg hg hx) a' c' W hW hR
theorem reval_any (row : List Val) (hv : ∀ x ∈ row, VOk x) (hrl : row.length ≤ 140737488355328) (aR : Option Addr) (cR : Nat) (e : Ex) (hf : e.fin) (hg : goodE e) (a : Option Addr) (c : Nat) (w : World) (ha : Ex.all w a e.args) (hr : RowAt w aR row) :
    Calls Tryz.prog 73 #[e.val a c, .slice aR row.length cR] w fun r w' => r = .returned (evalE row e).v ∧ Below w.heap.size w w' := reval_all row hv hrl aR cR e.size e (Nat.le_refl _) hf hg a c w ha hr
end Go.Proofs.YtmjeiepljlepbacGreat
