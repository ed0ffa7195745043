import Derived.Test.YtbmeoabafmpacaaKeysLaw
import Derived.Test.YtbmeoabafmpacaaRowsProof
set_option linter.unusedSimpArgs false
set_option linter.unusedVariables false
namespace Go.Proofs.Ytbmeoabafmpacaa
open Go.ChangeShapes Go.WideShapes Go.ChangeAt Go.RowKit Go.Joins Go.Deep

theorem bulk_len {H : Type} (xs : List Val) : 4 * xs.length ≤ Rows.uptoBulkAll (xs.map (Val.d (H := H))) := by
  induction xs with
  | nil => simp
  | cons x xs ih =>
    have := bulk_val (H := H) x
    simp only [List.length_cons, List.map_cons, Rows.uptoBulkAll] at *
    omega
theorem one_small {H : Type} {xs : List Val} {d : DataW H} (h : Rows.uptoBulk d ≤ 1048576) (hd : (d = .nil ∧ xs = []) ∨ ∃ sp, d = .slice (xs.map Val.d) sp) : wides xs ≤ 100000000 ∧ xs.length ≤ 1000000 := by
  rcases hd with ⟨_, rfl⟩ | ⟨sp, rfl⟩
  · simp [wides]
  · simp only [Rows.uptoBulk] at h
    have h1 := bulk_wides (H := H) xs
    have h2 := bulk_len (H := H) xs
    omega
theorem both_small {H : Type} {d d1 : DataW H} (hk : Rows.uptoSmall H [d, d1] = true) : Rows.uptoBulk d ≤ 1048576 ∧ Rows.uptoBulk d1 ≤ 1048576 := by
  have h : Rows.uptoBulkAll [d, d1] ≤ 1048576 := of_decide_eq_true hk
  simp only [Rows.uptoBulkAll] at h
  omega

theorem keys_contract (H : Type) (enc : TypeId × Value → H) (W : World) (base : Nat) (args : Array Value) (ds gs : List (DataW H)) (before : List MemPlace)
    (hval : ∀ (j : Nat) t v, Try.f6.params[j]? = some t → args[j]? = some v → Value.okWide Try.prog W .any base t v)
    (hW : DataW.Whole enc Try.prog Try.f6.params.toList Rows.cellKeysSpec.vars false W args.toList ds gs before) (hk : Rows.uptoSmall H (ds ++ gs) = true) :
    Calls Try.prog 6 args W fun e W' => ∃ v, e = .returned v ∧ Rows.cellKeysSpec.post enc Try.prog Try.f6 false true false false W args v W' := by
  have hW' := hW
  obtain ⟨p, q, hA0, hV, rfl, hfz, hnd⟩ := hW
  have hA : DataW.TrodAll enc Try.prog W 0 (fun _ => true) true Try.f6.params.toList args.toList ds p := hA0
  rw [Try.params6] at hA hval
  obtain ⟨v0, vs0, d0, ds0, p0, q0, hargs, rfl, rfl, h0, r0⟩ := trodAll_cons hA
  obtain ⟨v1, vs1, d1, ds1, p1, q1, rfl, rfl, rfl, h1, r1⟩ := trodAll_cons r0
  obtain ⟨rfl, rfl, rfl⟩ := trodAll_nil r1
  obtain rfl : args = #[v0, v1] := by cases args; simp_all
  obtain ⟨rfl, rfl⟩ := trodVars_none hV
  have k0 := h0
  have lt0 : ∀ x ∈ p0, x.block < W.heap.size := by obtain ⟨m, hm⟩ := k0; exact DataW.trod_lt m _ _ _ hm
  have k1 := h1
  have lt1 : ∀ x ∈ p1, x.block < W.heap.size := by obtain ⟨m, hm⟩ := k1; exact DataW.trod_lt m _ _ _ hm
  obtain ⟨aa, ca, xs, rfl, hla, ha, hxs, hda⟩ := open_row (hval 0 30 v0 rfl rfl) h0
  obtain ⟨ab, cb, ys, rfl, hlb, hb, hys, hdb⟩ := open_row (hval 1 30 v1 rfl rfl) h1
  clear hA0
  simp only [List.append_nil] at hk
  obtain ⟨s0, s1⟩ := both_small hk
  obtain ⟨w0, l0⟩ := one_small s0 hda
  obtain ⟨w1, l1⟩ := one_small s1 hdb
  refine (law_keys aa ab ca cb xs ys W l0 l1 w0 w1 (fun x hx => (hxs x hx).2.1) (fun y hy => (hys y hy).2.1) ha hb).mono fun e W' ⟨he, bel⟩ => ?_
  subst he
  exact ⟨_, rfl, _, _, _, [], _, [], hW', trodAll_mk1 (shut_bool Try.underlying4 _), (trodAll_cons_mk (Below.trod laidT (by kernel_rfl) (of_decide_eq_true (by kernel_rfl)) k0 bel lt0) (trodAll_cons_mk (Below.trod laidT (by kernel_rfl) (of_decide_eq_true (by kernel_rfl)) k1 bel lt1) trodAll_mk0)), rfl, bel.frame _, fun h => by cases h⟩

set_option maxRecDepth 100000 in
theorem keys_lifted (os : Os) (started : os.Started) (H : Type) (enc : TypeId × Value → H) (F : Stop.Interp) :
    ReturnsInHanded {} Try.checked os 6 .any ((Rows.OpenSpec.upto Rows.cellKeysSpec).pre6 enc Try.prog Try.f6 Rows.cellKeysUptoRow.domain false) (((Rows.OpenSpec.upto Rows.cellKeysSpec).at F).post enc Try.prog Try.f6 false true false false) := by
  refine returnsInHanded_of_cond (C := Try.checked) (s := Rows.OpenSpec.upto Rows.cellKeysSpec) (k := Rows.uptoSmall) rfl ownT started (by kernel_rfl) Try.func6
    (OpenSpec.witness (enc := enc) (C := Try.checked) (s := Rows.OpenSpec.upto Rows.cellKeysSpec) (k := Rows.uptoSmall) rfl false ⟨#[], #[.slice none 0 0, .slice none 0 0], []⟩ 8 (by kernel_rfl) (by kernel_rfl) (by kernel_rfl)
      (x := ([.nil, .nil], [], [])) (by kernel_rfl) rfl (by kernel_rfl)) ?_
  intro W base args ds gs before hval hW _ hk _
  exact keys_contract H enc W base args ds gs before hval hW hk

theorem keys_holds : Rows.CellKeysUptoSaid :=
  OpenClaim.holds_of_cond 6 Try.f6 rfl rfl rfl rfl rfl rfl rfl ⟨rfl, rfl, rfl, rfl, rfl⟩ rfl rfl rfl rfl rfl (by kernel_rfl) Try.func6 (by kernel_rfl)
    (of_decide_eq_true (by kernel_rfl)) (by unfold Func.isWrapper; first | (rw [if_pos (by decide +kernel)]; kernel_rfl) | (rw [if_neg (by decide +kernel)]; exact ⟨rfl, rfl⟩))
    (fun os started H enc _ F => keys_lifted os started H enc F)
#print axioms keys_holds
end Go.Proofs.Ytbmeoabafmpacaa
