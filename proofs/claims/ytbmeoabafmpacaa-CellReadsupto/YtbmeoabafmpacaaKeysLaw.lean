import Derived.Test.YtbmeoabafmpacaaCellL
import Derived.Test.YtbmeoabafmpacaaCellM
set_option linter.unusedSimpArgs false
set_option linter.unusedVariables false
namespace Go.Proofs.Ytbmeoabafmpacaa
open Go.RowKit Go.Sort

theorem flat_at : ∀ (zs : List Val) (i j : Nat) (x : Val), zs[i]? = some x → j < 3 → (zs.flatMap c3)[i * 3 + j]? = (c3 x)[j]?
  | [], i, j, x, h, _ => by simp at h
  | z :: zs, 0, j, x, h, hj => by
    simp at h
    subst h
    rw [List.flatMap_cons, List.getElem?_append_left (by simp [c3]; omega)]
    simp
  | z :: zs, i + 1, j, x, h, hj => by
    have ih := flat_at zs i j x (by simpa using h) hj
    rw [List.flatMap_cons, List.getElem?_append_right (by simp [c3]; omega)]
    rw [← ih]
    congr 1
    simp [c3]
    omega
theorem ownV_row {w : World} {base : Nat} {v : Value} {zs : List Val} (h : OwnV w base v zs) : ∃ a cap, v = .slice a zs.length cap ∧ RowAt w a zs := by
  rcases h.2 with ⟨rfl, h0⟩ | ⟨g, cap, cur, rfl, _⟩
  · have : zs = [] := List.eq_nil_of_length_eq_zero h0
    subst this
    exact ⟨none, 0, rfl, .inl rfl⟩
  · refine ⟨_, cap, rfl, .inr ⟨g, 0, rfl, fun i x hx => ?_⟩⟩
    have hc := World.ownsRow.cells h rfl
    have ea : ∀ n : Nat, (⟨g, 0, none⟩ : Addr).add n = ⟨g, 0 + n, none⟩ := by
      intro n
      by_cases h : n = 0 <;> simp [Addr.add, h]
    have e0 := hc (i * 3 + 0) _ (flat_at zs i 0 x hx (by omega))
    have e1 := hc (i * 3 + 1) _ (flat_at zs i 1 x hx (by omega))
    have e2 := hc (i * 3 + 2) _ (flat_at zs i 2 x hx (by omega))
    rw [ea] at e0 e1 e2
    exact ⟨by simpa using e0, by simpa [Nat.add_assoc] using e1, by simpa [Nat.add_assoc] using e2⟩

theorem rows_bd : ∀ (xs ys : List Val), -1 ≤ rowsV xs ys ∧ rowsV xs ys ≤ 1
  | [], [] => by simp [rowsV]
  | [], _ :: _ => by simp [rowsV]
  | _ :: _, [] => by simp [rowsV]
  | x :: xs, y :: ys => by
    have ih := rows_bd xs ys
    have hc : ∀ a b : Int, -1 ≤ cmpI a b ∧ cmpI a b ≤ 1 := by intro a b; unfold cmpI; split <;> (try split) <;> omega
    have hb : ∀ s t : List UInt8, -1 ≤ Lib.compareBytes s t ∧ Lib.compareBytes s t ≤ 1 := by
      intro s t
      rw [← less_cmp]
      split <;> (try split) <;> omega
    rw [rowsV]
    split
    · exact ih
    · unfold ordV cmpB orI
      have h1 := hc (cleanV x).k (cleanV y).k
      have h2 := hc (cleanV x).n (cleanV y).n
      have h3 := hb (cleanV x).s.data.toList (cleanV y).s.data.toList
      split
      · exact h1
      · split
        · exact h2
        · exact h3

set_option maxHeartbeats 2000000 in
set_option maxRecDepth 100000 in
theorem law_keys (aa ab : Option Addr) (ca cb : Nat) (xs ys : List Val) (w : World) (hla : xs.length ≤ 1000000) (hlb : ys.length ≤ 1000000) (hw : wides xs ≤ 100000000) (hw2 : wides ys ≤ 100000000) (hx : ∀ x ∈ xs, In64 x.n) (hy : ∀ y ∈ ys, In64 y.n) (ha : RowAt w aa xs) (hb : RowAt w ab ys) :
    Calls Try.prog 6 #[.slice aa xs.length ca, .slice ab ys.length cb] w fun e w' => e = .returned (.bool true) ∧ Below w.heap.size w w' := by
  have m1 : xs.length ≤ maxLen := by unfold maxLen; omega
  have m2 : ys.length ≤ maxLen := by unfold maxLen; omega
  have H1 := hide (fun W (h : Below w.heap.size w W) => key_any aa ca xs W m1 (by omega) (ha.later h))
  have H2 := hide (fun W (h : Below w.heap.size w W) => key_any ab cb ys W m2 (by omega) (hb.later h))
  have H3 := hide (fun W => row_any (toB (keyL xs)) W (by rw [toB_size]; have := keyL_len xs; omega))
  rw [decode_key xs hx] at H3
  have H4 := hide (fun W (h : Below w.heap.size w W) => rows_any aa ab ca cb xs ys W m1 m2 (ha.later h) (hb.later h))
  have H5 := hide (fun W (h : Below w.heap.size w W) => rows_any ab aa cb ca ys xs W m2 m1 (hb.later h) (ha.later h))
  have H6 := hide (fun W (h : Below w.heap.size w W) => kclean_any aa ca xs W (by omega) (ha.later h))
  have H7 := hide (fun a b c d W (h1 : RowAt W a (xs.map cleanV)) (h2 : RowAt W b (xs.map cleanV)) => same_any a b c d (xs.map cleanV) W (by rw [List.length_map]; exact m1) h1 h2)
  have hs : ∀ W, Calls Try.prog 33 #[.bool (Op.bytesLess (toB (keyL xs)).toList (toB (keyL ys)).toList), .bool ((toB (keyL xs)).toList == (toB (keyL ys)).toList)] W fun e w' => e = .returned (.int .i64 (rowsV xs ys)) ∧ w' = W := by
    intro W
    rw [← keys_order xs ys hx hy]
    exact sign_any _ _ W
  have H8 := hide hs
  have hr := rows_anti xs ys
  have hbd := rows_bd ys xs
  clear hs hla hlb hw hw2 hx hy ha hb m1 m2
  have hbel : Below w.heap.size w w := Below.refl _ _
  generalize rowsV xs ys = r1 at *
  generalize rowsV ys xs = r2 at *
  generalize toB (keyL xs) = kx at *
  generalize toB (keyL ys) = ky at *
  generalize xs.map cleanV = zs at *
  obtain ⟨b1, b2⟩ := hbd
  have hr2 : (r1 == -r2) = true := by simpa using hr
  clear hr
  go_enter Try.func6, Try.ntmps6
  go_wp2_with fail
  refine (unhide H1 _ hbel).mono ?_
  rintro e w1 ⟨rfl, hb1⟩
  replace hbel := below_step hbel hb1
  clear hb1
  go_wp2_with fail
  refine (unhide H2 _ hbel).mono ?_
  rintro e w1 ⟨rfl, hb1⟩
  replace hbel := below_step hbel hb1
  clear hb1
  go_wp2_with fail
  refine (unhide H3 _).mono ?_
  rintro e w3 ⟨⟨v3, rfl, ho3⟩, hb1⟩
  replace hbel := below_step hbel hb1
  clear hb1
  go_wp2_with fail
  refine (unhide H8 _).mono ?_
  rintro e w4 ⟨rfl, rfl⟩
  obtain ⟨a3, q3, rfl, hr3⟩ := ownV_row ho3
  clear ho3
  go_wp2_with fail
  refine (unhide H4 _ hbel).mono ?_
  rintro e w1 ⟨rfl, hb1⟩
  replace hbel := below_step hbel hb1
  replace hr3 := hr3.later hb1
  clear hb1
  go_wp2_with fail
  refine (unhide H4 _ hbel).mono ?_
  rintro e w1 ⟨rfl, hb1⟩
  replace hbel := below_step hbel hb1
  replace hr3 := hr3.later hb1
  clear hb1
  go_wp2_with fail
  refine (unhide H5 _ hbel).mono ?_
  rintro e w1 ⟨rfl, hb1⟩
  replace hbel := below_step hbel hb1
  replace hr3 := hr3.later hb1
  clear hb1
  go_wp2_with fail
  refine (unhide H6 _ hbel).mono ?_
  rintro e w5 ⟨v5, rfl, ho5, hb1⟩
  replace hbel := below_step hbel hb1
  replace hr3 := hr3.later hb1
  clear hb1
  obtain ⟨a5, q5, rfl, hr5⟩ := ownV_row ho5
  clear ho5
  go_wp2_with fail
  refine (unhide H7 _ _ _ _ _ hr3 hr5).mono ?_
  rintro e w6 ⟨rfl, hb1⟩
  replace hbel := below_step hbel hb1
  clear hb1 hr3 hr5
  go_wp2
  go_ret
  exact ⟨rfl, hbel⟩

end Go.Proofs.Ytbmeoabafmpacaa
