import Derived.Test.YtmjeiepljlepbacGreatExI
set_option linter.unusedSimpArgs false
set_option linter.unusedVariables false
namespace Go.Proofs.YtmjeiepljlepbacGreat
open Go.RowKit Go.Sort

theorem vok_truth (b : Bool) : VOk (truthV b) := by
  cases b
  · exact vok_num ⟨by decide, by decide⟩
  · exact vok_num ⟨by decide, by decide⟩
theorem fits_in {n : Int} (h : fitsB n = true) : In64 n := by
  unfold fitsB at h
  simp only [Bool.and_eq_true, decide_eq_true_eq] at h
  exact h
theorem ite_so {c : Prop} [Decidable c] {a n : Int} (h : (if c then some a else none) = some n) : c ∧ a = n := by
  by_cases hc : c
  · rw [if_pos hc] at h; injection h with h; exact ⟨hc, h⟩
  · rw [if_neg hc] at h; cases h
theorem tmod_in {x y : Int} (hx : In64 x) : In64 (x.tmod y) := by
  have h1 : (x.tmod y).natAbs ≤ x.natAbs := by rw [Int.natAbs_tmod]; exact Nat.mod_le _ _
  obtain ⟨h2, h3⟩ := hx
  by_cases h0 : 0 ≤ x
  · have := Int.tmod_nonneg y h0
    exact ⟨by omega, by omega⟩
  · have e : x.tmod y = -((-x).tmod y) := by rw [Int.neg_tmod]; omega
    have := Int.tmod_nonneg y (a := -x) (by omega)
    exact ⟨by omega, by omega⟩
theorem reck_in {op x y n : Int} (hx : In64 x) (h : reck op x y = some n) : In64 n := by
  unfold reck at h
  split at h
  · obtain ⟨h1, rfl⟩ := ite_so h; exact fits_in h1
  split at h
  · obtain ⟨h1, rfl⟩ := ite_so h; exact fits_in h1
  split at h
  · obtain ⟨h1, rfl⟩ := ite_so h; exact fits_in h1
  split at h
  · split at h
    · cases h
    · obtain ⟨h1, rfl⟩ := ite_so h; exact fits_in h1
  split at h
  · split at h
    · cases h
    · injection h with h; rw [← h]; exact tmod_in hx
  · cases h
theorem vok_reck (op : Int) (x y : Val) (hx : VOk x) : VOk (reckV op x y) := by
  unfold reckV
  split
  · cases h : reck op x.n y.n with
    | none => exact vok_null
    | some n => exact vok_num (reck_in hx.1 h)
  · exact vok_null
theorem vok_test (op : Int) (x y : Val) : VOk (testV op x y) := by
  unfold testV
  split
  · exact vok_null
  · unfold testR
    split
    · exact vok_truth _
    · exact vok_null
theorem vok_both (op : Int) (x y : Val) : VOk (bothV op x y) := by
  unfold bothV
  repeat' split
  all_goals first | exact vok_truth _ | exact vok_null
theorem vok_cat (x y : Val) : VOk (catV x y) := by
  unfold catV
  split
  · rename_i h
    simp only [Bool.and_eq_true, decide_eq_true_eq] at h
    refine ⟨⟨by show -9223372036854775808 ≤ (0 : Int); decide, by show (0 : Int) ≤ 9223372036854775807; decide⟩, ?_⟩
    show (x.s ++ y.s).size ≤ _
    rw [ByteArray.size_append]; omega
  · exact vok_null
theorem vok_not (x : Val) : VOk (notV x) := by
  unfold notV
  split
  · exact vok_truth _
  · exact vok_null
theorem vok_one (op : Int) {x : Val} (hx : VOk x) : VOk (oneV op x) := by
  unfold oneV
  split
  · exact vok_reck _ _ _ (vok_num ⟨by decide, by decide⟩)
  · split
    · exact vok_not x
    · split
      · split
        · exact vok_num ⟨by decide, by decide⟩
        · exact vok_num ⟨by decide, by decide⟩
      · split
        · have := hx.2
          exact vok_num ⟨by omega, by omega⟩
        · exact vok_null
theorem vok_two (op : Int) {x y : Val} (hx : VOk x) (hy : VOk y) : VOk (twoV op x y) := by
  unfold twoV
  split
  · exact vok_reck _ _ _ hx
  · split
    · exact vok_test _ _ _
    · split
      · exact vok_cat _ _
      · exact vok_both _ _ _
theorem vok_node {op n : Int} {v : Val} {row : List Val} (hv : VOk v) (hr : ∀ x ∈ row, VOk x) : ∀ (l : List Val), (∀ x ∈ l, VOk x) → VOk (nodeV op n v row l)
  | [], _ => by
    show VOk (if op == 2 then cleanV v else if decide ((row.length : Int) ≤ n) then .null else cleanV (row.getD n.toNat .null))
    split
    · exact vok_clean hv
    · split
      · exact vok_null
      · rw [List.getD_eq_getElem?_getD]
        cases h : row[n.toNat]? with
        | none => exact vok_clean vok_null
        | some x => exact vok_clean (hr x (List.mem_of_getElem? h))
  | [x], h => vok_one op (h x (by simp))
  | [x, y], h => vok_two op (h x (by simp)) (h y (by simp))
  | x :: y :: z :: t, h => by
    show VOk (if trueB x then y else z)
    split
    · exact h y (by simp)
    · exact h z (by simp)
mutual
theorem eval_ok {row : List Val} (hr : ∀ x ∈ row, VOk x) : ∀ (e : Ex), e.fin → VOk (evalE row e)
  | .mk op n v l, hf => by
    rw [Ex.fin] at hf
    rw [evalE]
    exact vok_node ⟨hf.1.2.2.1, hf.1.2.1⟩ hr _ (evalL_ok hr l hf.2)
theorem evalL_ok {row : List Val} (hr : ∀ x ∈ row, VOk x) : ∀ (l : List Ex), Ex.fins l → ∀ x ∈ evalL row l, VOk x
  | [], _ => by rw [evalL]; intro x hx; cases hx
  | e :: l, hf => by
    rw [Ex.fins] at hf
    rw [evalL]
    intro x hx
    rcases List.mem_cons.1 hx with rfl | hx
    · exact eval_ok hr e hf.1
    · exact evalL_ok hr l hf.2 x hx
end
theorem evalE_eq (row : List Val) (e : Ex) : evalE row e = nodeV e.op e.n e.v row (evalL row e.args) := by
  cases e with
  | mk op n v l => rw [evalE]; rfl
theorem no_args {e : Ex} (h : goodE e) (h0 : e.args = []) : (e.op = 1 ∧ 0 ≤ e.n) ∨ e.op = 2 := by
  have hs := (good_open h).1
  have hl := sound_len hs
  rw [h0] at hl
  have ha : arI e.op = 0 := hl.symm
  have h12 : e.op = 1 ∨ e.op = 2 := by
    by_cases h1 : e.op = 1
    · exact .inl h1
    by_cases h2 : e.op = 2
    · exact .inr h2
    unfold arI at ha
    have e1 : (e.op == 1) = false := by simpa using h1
    have e2 : (e.op == 2) = false := by simpa using h2
    rw [e1, e2] at ha
    simp only [Bool.false_eq_true, if_false] at ha
    split at ha
    · cases ha
    · split at ha
      · cases ha
      · split at ha <;> cases ha
  rcases h12 with h1 | h1
  · refine .inl ⟨h1, ?_⟩
    unfold soundE at hs
    rw [h1] at hs
    simp only [Bool.and_eq_true] at hs
    simpa using hs.2
  · exact .inr h1
set_option maxHeartbeats 400000 in
theorem leaf_any (e : Ex) (hg : goodE e) (h0 : e.args = []) (a : Option Addr) (c : Nat) (w : World) : Calls Tryz.prog 147 #[e.val a c] w fun r w' => ∃ F, r = .returned F ∧ Work w' F e ∧ Below w.heap.size w w' := by
  have hmf : ∀ (fn : Fn) (first cap : Array Value) (w : World), (Instr.makeFunc fn first cap).run Tryz.prog w = .ok (.func fn first cap) w := fun _ _ _ _ => rfl
  have hB := below_alloc (Below.refl _ w) (.cells #[.int .i64 e.op, .int .i64 e.n, .int .i64 e.v.k, .int .i64 e.v.n, .string e.v.s, .slice a e.args.length c] 59)
  have HB := hide hB
  obtain ⟨c0, c1, c2, c3, c4, c5⟩ : Six (w.alloc (.cells #[.int .i64 e.op, .int .i64 e.n, .int .i64 e.v.k, .int .i64 e.v.n, .string e.v.s, .slice a e.args.length c] 59)) w.heap.size e a c := Six.new w e a c
  have HEV : Hid (∀ row, evalE row e = nodeV e.op e.n e.v row []) := fun row => by rw [evalE_eq, h0, evalL]
  have HC := hide (clean_any e.v)
  rw [Val.open_] at HC
  rw [Ex.val_open]
  rcases no_args hg h0 with ⟨h1, hn⟩ | h2
  · have e2 : (e.op == 2) = false := by rw [h1]; rfl
    have HW : Hid (∀ row, evalE row e = if decide ((row.length : Int) ≤ e.n) then Val.null else cleanV (row.getD e.n.toNat .null)) := fun row => by
      rw [unhide HEV row]; show (if e.op == 2 then _ else _) = _; rw [e2]; rfl
    have HX : Hid (Box1 ((w.alloc (.cells #[.int .i64 e.op, .int .i64 e.n, .int .i64 e.v.k, .int .i64 e.v.n, .string e.v.s, .slice a e.args.length c] 59)).alloc (.cells #[.int .i64 e.n] 3)) (w.heap.size + 1) (.int .i64 e.n)) := by show Box1 _ _ _; unfold Box1; simp [go_sem]
    clear h0 hg hB h1 HC
    go_enter Tryz.func147, Tryz.ntmps147
    go_wp2
    go_ret
    refine ⟨_, rfl, ⟨192, _, rfl, ent58, fun W' a' c' row hW hr hv hl => ?_⟩, below_alloc (unhide HB) _⟩
    rw [unhide HW row]
    exact leaf2_any e.n (w.heap.size + 1) a' c' row W' hn hl ((unhide HX).later hW) hr
  · have e2 : (e.op == 2) = true := by rw [h2]; rfl
    have HW : Hid (∀ row, evalE row e = cleanV e.v) := fun row => by
      rw [unhide HEV row]; show (if e.op == 2 then _ else _) = _; rw [e2]; rfl
    generalize cleanV e.v = cv at *
    clear h0 hg hB h2
    go_enter Tryz.func147, Tryz.ntmps147
    go_wp2_with (go_at_call 47; refine (unhide HC _).mono ?_; rintro r w1 ⟨rfl, hb1⟩; rw [Val.open_])
    go_ret
    have hbx : BoxAt (w1.alloc (.cells #[.int .i64 cv.k, .int .i64 cv.n, .string cv.s] 38)) w1.heap.size cv := by refine ⟨?_, ?_, ?_⟩ <;> simp [go_sem]
    refine ⟨_, rfl, ⟨191, _, rfl, ent57, fun W' a' c' row hW hr hv hl => ?_⟩, below_alloc (below_one hb1) _⟩
    rw [unhide HW row]
    exact leaf1_any cv w1.heap.size a' row.length c' W' (hbx.later hW)
end Go.Proofs.YtmjeiepljlepbacGreat
