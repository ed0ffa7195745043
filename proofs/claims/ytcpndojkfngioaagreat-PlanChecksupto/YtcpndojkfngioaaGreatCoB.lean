import Derived.Test.YtcpndojkfngioaaGreatCoA
import Derived.Test.YtcpndojkfngioaaGreatShelf
import Derived.Sort.OwnSortedInts
import Derived.Lib.OwnBridge
set_option linter.unusedSimpArgs false
set_option linter.unusedVariables false
set_option maxRecDepth 100000
namespace Go.Proofs.YtcpndojkfngioaaGreat
open Go.RowKit Go.Sort Go.Shelf

/-- slices.Sort (75) of numbers of the call's own. -/
theorem isort_any (base : Nat) (xs : List Int) (v : Value) (w : World) (hl : xs.length ≤ 1048576) (hown : OwnI w base v xs) (hb : base ≤ w.heap.size) :
    Calls Tryz.prog 112 #[v] w fun e w' => e = .returned (.tuple #[]) ∧ OwnI w' base v (xs.mergeSort fun x y => decide (x ≤ y)) ∧ Below base w w' := by
  have hml : (xs.mergeSort fun x y => decide (x ≤ y)).length = xs.length := List.length_mergeSort xs
  rcases hown.2 with ⟨rfl, h0⟩ | ⟨g, cap, cur, rfl, hge, hh, hnc, hcm, hcs, htake⟩
  · have hx : xs = [] := List.eq_nil_of_length_eq_zero h0
    subst hx
    have hcon := Any.slices_Sort_int_none Tryz.sortI none 0 w
    change Calls Tryz.prog 112 _ _ _ at hcon
    refine hcon.mono ?_
    rintro e w' ⟨rfl, rfl⟩
    exact ⟨rfl, by rw [List.mergeSort_nil]; exact hown, Below.refl _ _⟩
  · obtain ⟨g', cap', e', _, hgl, _, _, _, hH⟩ := Lib.holds_of_ownsRow hown (by simp)
    injection e' with e1 _ e3
    injection e1 with e1
    injection e1 with e1
    subst e1 e3
    have hcon := Any.slices_Sort_int Tryz.sortI g 0 cap xs w hH hgl (by omega)
    change Calls Tryz.prog 112 _ _ _ at hcon
    refine hcon.mono ?_
    rintro e w' ⟨rfl, n, os, rfl⟩
    refine ⟨rfl, ?_, (Below.refl base w).grown (grownBy_sortedI _) hb fun j hj => by cases hj; exact hge⟩
    unfold OwnI
    rw [hml]
    exact ownsRow_sortedI hml hge hh hnc hcm hcs
/-- slices.Compact (76), likewise. -/
theorem icompact_any (base : Nat) (xs : List Int) (v : Value) (w : World) (hl : xs.length ≤ 1048576) (hown : OwnI w base v xs) (hb : base ≤ w.heap.size) :
    Calls Tryz.prog 113 #[v] w fun e w' => ∃ v', e = .returned v' ∧ OwnI w' base v' (Lib.compact xs) ∧ Below base w w' := by
  rcases hown.2 with ⟨rfl, h0⟩ | ⟨g, cap, cur, rfl, hge, hh, hnc, hcm, hcs, htake⟩
  · have hx : xs = [] := List.eq_nil_of_length_eq_zero h0
    subst hx
    have hcon := Any.slices_Compact_int_empty Tryz.compI none 0 w
    change Calls Tryz.prog 113 _ _ _ at hcon
    refine hcon.mono ?_
    rintro e w' ⟨rfl, rfl⟩
    exact ⟨_, rfl, hown, Below.refl _ _⟩
  · obtain ⟨g', cap', e', _, hgl, _, _, _, hH⟩ := Lib.holds_of_ownsRow hown (by simp)
    injection e' with e1 _ e3
    injection e1 with e1
    injection e1 with e1
    subst e1 e3
    have hcon := Any.slices_Compact_int Tryz.compI g 0 cap xs w hH (by omega) hnc
    change Calls Tryz.prog 113 _ _ _ at hcon
    refine hcon.mono ?_
    rintro e w' ⟨rfl, q, rfl⟩
    have hle := Lib.compact_length_le xs
    refine ⟨_, rfl, ?_, Lib.below_putRow (Below.refl _ _) hge⟩
    have hc := Lib.ownsRow_putRow (q := q) (k := (Lib.compact xs).length) (ys := Lib.compact xs ++ List.replicate (xs.length - (Lib.compact xs).length) 0) hown (by simp; omega) (by omega)
    rw [List.take_left] at hc
    exact hc
set_option maxHeartbeats 1000000 in
/-- Columns (33). -/
theorem cols_any (e : Ex) (hf : e.fin) (a : Option Addr) (c : Nat) (w : World) (ha : Ex.all w a e.args) :
    Calls Tryz.prog 85 #[e.val a c] w fun r w' => ∃ v, r = .returned v ∧ OwnI w' w.heap.size v (if builtE e then uniqI (colsE e) else []) ∧ Below w.heap.size w w' := by
  have HB := hide (fun (W : World) (hW : Below w.heap.size w W) => built_any e hf a c W (Ex.all_later _ ha hW))
  have HC := hide (fun (hb : builtE e = true) (W : World) (hW : Below w.heap.size w W) => columns_all e.size e (Nat.le_refl _) (built_good hb) hf (built_bounds hb).1 a c W (Ex.all_later _ ha hW))
  have HB0 := hide (below_alloc (Below.refl _ w) (.cells #[.int .i64 e.op, .int .i64 e.n, .int .i64 e.v.k, .int .i64 e.v.n, .string e.v.s, .slice a e.args.length c] 74))
  have H6 := hide (Six.new w e a c)
  have hsz : builtE e = true → (colsE e).length ≤ 400 := fun hb => by have h1 := cols_size e; have h2 := (built_bounds hb).1; omega
  rw [Ex.val_open] at HB HC ⊢
  clear ha
  unfold uniqI
  cases hb : builtE e with
  | false =>
    rw [hb] at HB
    clear hb HC hsz
    go_enter Tryz.func85, Tryz.ntmps85
    go_wp2_with (go_at_call 110; refine (unhide HB _ (unhide HB0)).mono ?_; rintro r w1 ⟨rfl, hb1⟩)
    go_ret
    exact ⟨_, rfl, own_nil _ _, below_step (unhide HB0) hb1⟩
  | true =>
    rw [hb] at HB
    have HC := hide (unhide HC hb)
    have HZ := hide (hsz hb)
    clear hb hsz
    generalize colsE e = S at *
    go_enter Tryz.func85, Tryz.ntmps85
    go_wp2_with (first
      | (go_at_call 113; refine (unhide HX4).mono ?_; rintro r w4 ⟨v4, rfl, hO4, hb4⟩)
      | (go_at_call 112; refine (unhide HX3).mono ?_; rintro r w3 ⟨rfl, hO3, hb3⟩; have HX4 := hide (icompact_any w.heap.size _ v2 w3 (by rw [List.length_mergeSort]; have := unhide HZ; omega) hO3 (hB2.trans hb3).size); have hB3 := hB2.trans hb3)
      | (go_at_call 111; refine (unhide HC w1 hB1).mono ?_; rintro r w2 ⟨v2, rfl, hO2, hb2⟩; have hB2 := below_step hB1 hb2; have HX3 := hide (isort_any w.heap.size _ v2 w2 (by have := unhide HZ; omega) (hO2.base_le hB1.size) hB2.size))
      | (go_at_call 110; refine (unhide HB _ (unhide HB0)).mono ?_; rintro r w1 ⟨rfl, hb1⟩; obtain ⟨b0, b1, b2, b3, b4, b5⟩ := (unhide H6).later hb1; have hB1 := below_step (unhide HB0) hb1))
    go_ret
    exact ⟨_, rfl, hO4, hB3.trans hb4⟩
end Go.Proofs.YtcpndojkfngioaaGreat
