import Derived.Test.YtifohbapfciniabVecP
set_option linter.unusedSimpArgs false
set_option linter.unusedVariables false
namespace Go.Proofs.Ytifohbapfciniab
open Go.RowKit Go.Sort

theorem Try.info3 : (Try.prog.info? 3).map (fun i => (i.zero, i.size, i.bytes)) = some (some (.int .i64 0), 1, 8) := by kernel_rfl
/-- The places below k at which a number stands that is not 0. -/
def plN (ys : List Val) : Nat → List Int
  | 0 => []
  | k + 1 => plN ys k ++ (if trueB (ys.getD k .null) then [(k : Int)] else [])
theorem plN_len (ys : List Val) : ∀ k, (plN ys k).length ≤ k
  | 0 => Nat.le_refl _
  | k + 1 => by have := plN_len ys k; simp only [plN, List.length_append]; split <;> simp <;> omega
theorem plN_yes {ys : List Val} {k : Nat} {y : Val} (h : ys[k]? = some y) (ht : trueB y = true) : plN ys (k + 1) = plN ys k ++ [(k : Int)] := by
  simp [plN, h, ht]
theorem plN_no {ys : List Val} {k : Nat} {y : Val} (h : ys[k]? = some y) (ht : trueB y = false) : plN ys (k + 1) = plN ys k := by
  simp [plN, h, ht]
def OwnI (w : World) (base : Nat) (v : Value) (zs : List Int) : Prop := w.ownsRow base 3 1 v zs.length (zs.map (Value.int .i64))
theorem ownI_app {w : World} {base : Nat} {v : Value} {zs : List Int} {x : Int} (h : w.ownsRow base 3 1 v (zs.length + 1) (zs.map (Value.int .i64) ++ [.int .i64 x])) : OwnI w base v (zs ++ [x]) := by
  unfold OwnI
  rw [List.length_append, List.map_append]
  simpa using h

set_option maxHeartbeats 4000000 in
theorem places_any (X : Vc) (p : Sl) (w : World) (hs : small X) (hp : VecAt w X p) :
    Calls Try.prog 19 #[vecV X p] w fun e w' => ∃ v, e = .returned v ∧ OwnI w' w.heap.size v (plN (valsV X) (valsV X).length) ∧ Below w.heap.size w w' := by
  obtain ⟨i4, hi4, z40, z41, z42⟩ := info_parts Try.info3
  have HV : Hid (∀ w', Below w.heap.size w w' → Calls Try.prog 17 #[vecV X p] w' fun e w'' => ∃ v, e = .returned v ∧ OwnV w'' w'.heap.size v (valsV X) ∧ Below w'.heap.size w' w'') := fun w' hb => values_any X p w' hs (hp.later hb)
  have hN : (valsV X).length ≤ 1048576 := Nat.le_trans (vals_le X) hs.1
  generalize valsV X = ys at HV hN ⊢
  generalize hZ : plN ys ys.length = Z
  have HZ := hide hZ
  clear hp hs hZ
  rw [vecV_open]
  go_enter Try.func19, Try.ntmps19
  go_wp2_with (go_at_call 17; refine (unhide HV _ (below_alloc (Below.refl _ _) _)).mono ?_; rintro e w1 ⟨v, rfl, ho1, hb1⟩; obtain ⟨a, c, rfl, hr1⟩ := ownV_row ho1; have hbw := below_one hb1; clear ho1 hb1)
  have HR := hide hr1
  have HBW := hide hbw
  clear hr1 hbw
  go_loopw [3, 9] (fun v i wr => ∃ k : Nat, k ≤ ys.length ∧ i = .int .i64 k ∧ OwnI wr w1.heap.size v (plN ys k) ∧ Below w1.heap.size w1 wr) (fun _ i _ => ys.length - (intOf i).toNat)
  case atStart => exact ⟨0, Nat.zero_le _, rfl, World.ownsRow_nil _ _ _ _, Below.refl _ _⟩
  case round =>
    obtain ⟨k, hk, rfl, ho, hb⟩ := hrel
    have HO := hide ho
    have HB := hide hb
    have HL := hide (plN_len ys k)
    by_cases h1 : k < ys.length
    · obtain ⟨y, hy⟩ : ∃ y, ys[k]? = some y := ⟨_, List.getElem?_eq_getElem h1⟩
      rcases (unhide HR).later hb with e | ⟨ba, oa, e, hca⟩
      · rw [e] at hy; cases hy
      subst e
      obtain ⟨c0, c1, c2⟩ := hca k y hy
      have HY := hide hy
      have i1 : (k : Int) < (ys.length : Int) := by omega
      clear hca hy ho hb
      rcases Bool.eq_false_or_eq_true (trueB y) with et | et
      · go_wp2_with (first
          | (go_at_call 39; refine (true_any y _).mono ?_; rintro e w2 ⟨rfl, hb2⟩; have hb2' := below_one hb2; have ho2 := own_later (unhide HO) hb2'; have hbb2 := below_step (unhide HB) hb2'; have hsz2 := hbb2.size)
          | (at_builtin; refine wpList_append_own_at _ rfl (.tmp 16) (.tmp 18) 36 rfl w1.heap.size 3 i4 (.int .i64 0) 1 8 Try.underlying36 hi4 z40 z41 z42 rfl (by decide) _ _ _ rfl (World.ownsRow.alloc ho2 _) ⟨w2.heap.size, 0, none⟩ 1 1 [.int .i64 (k : Int)] rfl rfl (cell_one_new _ _ _) (by intro u hu; simp at hu; subst hu; rfl) (by have := unhide HL; unfold maxLen; omega) (by have := unhide HL; omega) (by simp; omega) ?_; intro v1 w3 hown1 hgrow1 _ hat1; have ho3 := ownI_app hown1; have hgr : (w2.alloc (.cells #[.int .i64 (k : Int)] 3)).grownBy w3 u3.ownBlock := hgrow1; clear hown1 hgrow1 hat1))
        go_roundw
        case rel => exact ⟨k + 1, by omega, by go_num, by rw [plN_yes (unhide HY) et]; exact ho3, (below_alloc hbb2 _).trans (grown_below hgr (below_alloc hbb2 _).size fun g e => (ho2.lt g e).1)⟩
        case measure => simp [intOf]; omega
      · go_wp2_with (go_at_call 39; refine (true_any y _).mono ?_; rintro e w2 ⟨rfl, hb2⟩; have hb2' := below_one hb2; have ho2 := own_later (unhide HO) hb2'; have hbb2 := below_step (unhide HB) hb2')
        go_roundw
        case rel => exact ⟨k + 1, by omega, by go_num, by rw [plN_no (unhide HY) et]; exact ho2, hbb2⟩
        case measure => simp [intOf]; omega
    · have i1 : ¬ (k : Int) < (ys.length : Int) := by omega
      have HE : Hid (plN ys k = Z) := by
        show _ = _
        have e : k = ys.length := by omega
        rw [e]; exact unhide HZ
      clear ho hb
      go_wp2
      go_ret
      refine ⟨_, rfl, ?_, below_step (unhide HBW) (unhide HB)⟩
      rw [← unhide HE]
      exact own_base (unhide HO) (unhide HBW).size
set_option maxHeartbeats 4000000 in
theorem rplaces_any (X : Vc) (p : Sl) (w : World) (hs : small X) (hp : VecAt w X p) :
    Calls Try.prog 20 #[vecV X p] w fun e w' => ∃ v, e = .returned v ∧ OwnI w' w.heap.size v (plN (valsV X) (valsV X).length) ∧ Below w.heap.size w w' := by
  obtain ⟨i4, hi4, z40, z41, z42⟩ := info_parts Try.info3
  have HV : Hid (∀ w', Below w.heap.size w w' → Calls Try.prog 11 #[vecV X p] w' fun e w'' => ∃ v, e = .returned v ∧ OwnV w'' w'.heap.size v (valsV X) ∧ Below w'.heap.size w' w'') := fun w' hb => rvalues_any X p w' hs (hp.later hb)
  have hN : (valsV X).length ≤ 1048576 := Nat.le_trans (vals_le X) hs.1
  generalize valsV X = ys at HV hN ⊢
  generalize hZ : plN ys ys.length = Z
  have HZ := hide hZ
  clear hp hs hZ
  rw [vecV_open]
  go_enter Try.func20, Try.ntmps20
  go_wp2_with (go_at_call 11; refine (unhide HV _ (below_alloc (Below.refl _ _) _)).mono ?_; rintro e w1 ⟨v, rfl, ho1, hb1⟩; obtain ⟨a, c, rfl, hr1⟩ := ownV_row ho1; have hbw := below_one hb1; clear ho1 hb1)
  have HR := hide hr1
  have HBW := hide hbw
  clear hr1 hbw
  go_loopw [3, 9] (fun v i wr => ∃ k : Nat, k ≤ ys.length ∧ i = .int .i64 k ∧ OwnI wr w1.heap.size v (plN ys k) ∧ Below w1.heap.size w1 wr) (fun _ i _ => ys.length - (intOf i).toNat)
  case atStart => exact ⟨0, Nat.zero_le _, rfl, World.ownsRow_nil _ _ _ _, Below.refl _ _⟩
  case round =>
    obtain ⟨k, hk, rfl, ho, hb⟩ := hrel
    have HO := hide ho
    have HB := hide hb
    have HL := hide (plN_len ys k)
    by_cases h1 : k < ys.length
    · obtain ⟨y, hy⟩ : ∃ y, ys[k]? = some y := ⟨_, List.getElem?_eq_getElem h1⟩
      rcases (unhide HR).later hb with e | ⟨ba, oa, e, hca⟩
      · rw [e] at hy; cases hy
      subst e
      obtain ⟨c0, c1, c2⟩ := hca k y hy
      have HY := hide hy
      have i1 : (k : Int) < (ys.length : Int) := by omega
      clear hca hy ho hb
      rcases Bool.eq_false_or_eq_true (trueB y) with et | et
      · go_wp2_with (first
          | (go_at_call 40; refine (rtrue_any y _).mono ?_; rintro e w2 ⟨rfl, hb2⟩; have hb2' := below_one hb2; have ho2 := own_later (unhide HO) hb2'; have hbb2 := below_step (unhide HB) hb2'; have hsz2 := hbb2.size)
          | (at_builtin; refine wpList_append_own_at _ rfl (.tmp 16) (.tmp 18) 36 rfl w1.heap.size 3 i4 (.int .i64 0) 1 8 Try.underlying36 hi4 z40 z41 z42 rfl (by decide) _ _ _ rfl (World.ownsRow.alloc ho2 _) ⟨w2.heap.size, 0, none⟩ 1 1 [.int .i64 (k : Int)] rfl rfl (cell_one_new _ _ _) (by intro u hu; simp at hu; subst hu; rfl) (by have := unhide HL; unfold maxLen; omega) (by have := unhide HL; omega) (by simp; omega) ?_; intro v1 w3 hown1 hgrow1 _ hat1; have ho3 := ownI_app hown1; have hgr : (w2.alloc (.cells #[.int .i64 (k : Int)] 3)).grownBy w3 u3.ownBlock := hgrow1; clear hown1 hgrow1 hat1))
        go_roundw
        case rel => exact ⟨k + 1, by omega, by go_num, by rw [plN_yes (unhide HY) et]; exact ho3, (below_alloc hbb2 _).trans (grown_below hgr (below_alloc hbb2 _).size fun g e => (ho2.lt g e).1)⟩
        case measure => simp [intOf]; omega
      · go_wp2_with (go_at_call 40; refine (rtrue_any y _).mono ?_; rintro e w2 ⟨rfl, hb2⟩; have hb2' := below_one hb2; have ho2 := own_later (unhide HO) hb2'; have hbb2 := below_step (unhide HB) hb2')
        go_roundw
        case rel => exact ⟨k + 1, by omega, by go_num, by rw [plN_no (unhide HY) et]; exact ho2, hbb2⟩
        case measure => simp [intOf]; omega
    · have i1 : ¬ (k : Int) < (ys.length : Int) := by omega
      have HE : Hid (plN ys k = Z) := by
        show _ = _
        have e : k = ys.length := by omega
        rw [e]; exact unhide HZ
      clear ho hb
      go_wp2
      go_ret
      refine ⟨_, rfl, ?_, below_step (unhide HBW) (unhide HB)⟩
      rw [← unhide HE]
      exact own_base (unhide HO) (unhide HBW).size
end Go.Proofs.Ytifohbapfciniab
