import Derived.Test.YtbmeoabafmpacaaCellH
set_option linter.unusedSimpArgs false
set_option linter.unusedVariables false
namespace Go.Proofs.Ytbmeoabafmpacaa
open Go.RowKit Go.Sort

set_option maxHeartbeats 2000000 in
set_option maxRecDepth 100000 in
theorem law_rows (aa ab : Option Addr) (ca cb : Nat) (xs ys : List Val) (w : World) (hla : xs.length ≤ maxLen) (hlb : ys.length ≤ maxLen) (hw : wides xs ≤ 140737488300000) (ha : RowAt w aa xs) (hb : RowAt w ab ys) :
    Calls Try.prog 4 #[.slice aa xs.length ca, .slice ab ys.length cb] w fun e w' => e = .returned (.bool true) ∧ Below w.heap.size w w' := by
  have H1 := hide (fun W (h : Below w.heap.size w W) => rows_any aa ab ca cb xs ys W hla hlb (ha.later h) (hb.later h))
  have H2 := hide (fun W (h : Below w.heap.size w W) => rrows_any aa ab ca cb xs ys W hla hlb (ha.later h) (hb.later h))
  have H3 := hide (fun W (h : Below w.heap.size w W) => key_any aa ca xs W hla hw (ha.later h))
  have H4 := hide (fun W (h : Below w.heap.size w W) => rkey_any aa ca xs W hla hw (ha.later h))
  have H5 := hide (fun W (h : Below w.heap.size w W) => rows_any ab aa cb ca ys xs W hlb hla (hb.later h) (ha.later h))
  have H6 := hide (fun W (h : Below w.heap.size w W) => rrows_any ab aa cb ca ys xs W hlb hla (hb.later h) (ha.later h))
  clear hla hlb hw ha hb
  have hbel : Below w.heap.size w w := Below.refl _ _
  generalize rowsV xs ys = r1 at *
  generalize rowsV ys xs = r2 at *
  generalize toB (keyL xs) = key at *
  go_enter Try.func4, Try.ntmps4
  go_wp2_with fail
  refine (unhide H1 _ hbel).mono ?_
  rintro e w1 ⟨rfl, hb1⟩
  replace hbel := below_step hbel hb1
  clear hb1
  go_wp2_with fail
  refine (unhide H2 _ hbel).mono ?_
  rintro e w1 ⟨rfl, hb1⟩
  replace hbel := below_step hbel hb1
  clear hb1
  go_wp2_with fail
  refine (unhide H3 _ hbel).mono ?_
  rintro e w1 ⟨rfl, hb1⟩
  replace hbel := below_step hbel hb1
  clear hb1
  go_wp2_with fail
  refine (unhide H4 _ hbel).mono ?_
  rintro e w1 ⟨rfl, hb1⟩
  replace hbel := below_step hbel hb1
  clear hb1
  go_wp2_with fail
  refine (unhide H5 _ hbel).mono ?_
  rintro e w1 ⟨rfl, hb1⟩
  replace hbel := below_step hbel hb1
  clear hb1
  go_wp2_with fail
  refine (unhide H6 _ hbel).mono ?_
  rintro e w1 ⟨rfl, hb1⟩
  replace hbel := below_step hbel hb1
  clear hb1
  go_wp2
  go_ret
  exact ⟨rfl, hbel⟩

end Go.Proofs.Ytbmeoabafmpacaa
