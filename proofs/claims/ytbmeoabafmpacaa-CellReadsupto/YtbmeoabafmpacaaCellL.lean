import Derived.Test.YtbmeoabafmpacaaCellK
set_option linter.unusedSimpArgs false
set_option linter.unusedVariables false
namespace Go.Proofs.Ytbmeoabafmpacaa
open Go.RowKit Go.Sort

theorem sign_any (x y : Bool) (w : World) :
    Calls Try.prog 33 #[.bool x, .bool y] w fun e w' => e = .returned (.int .i64 (rcmpI x y)) ∧ w' = w := by
  cases x <;> cases y
  all_goals
    go_enter Try.func33, Try.ntmps33
    go_wp2
    go_ret
    exact ⟨rfl, rfl⟩

set_option maxHeartbeats 2000000 in
set_option maxRecDepth 100000 in
theorem kclean_any (aa : Option Addr) (ca : Nat) (xs : List Val) (w : World) (hla : xs.length ≤ 1000000000) (ha : RowAt w aa xs) :
    Calls Try.prog 35 #[.slice aa xs.length ca] w fun e w' => ∃ v, e = .returned v ∧ OwnV w' w.heap.size v (xs.map cleanV) ∧ Below w.heap.size w w' := by
  obtain ⟨i0, hi, hz0, hz1, hz2⟩ := info_parts Try.info23
  go_enter Try.func35, Try.ntmps35
  go_wp2_with fail
  go_loopw [3, 8] (fun v i wr => ∃ k : Nat, k ≤ xs.length ∧ i = .int .i64 k ∧ OwnV wr w.heap.size v ((xs.take k).map cleanV) ∧ Below w.heap.size w wr) (fun _ i wx => xs.length - (intOf i).toNat)
  case atStart => exact ⟨0, Nat.zero_le _, rfl, World.ownsRow_nil _ _ _ _, Below.refl _ _⟩
  case round =>
    obtain ⟨k, hk1, rfl, ho, hbel⟩ := hrel
    have ha' := ha.later hbel
    by_cases h1 : k < xs.length
    · obtain ⟨x, hx⟩ : ∃ x, xs[k]? = some x := ⟨_, List.getElem?_eq_getElem h1⟩
      rcases ha' with e | ⟨ba, oa, rfl, hca⟩
      · subst e; simp at h1
      obtain ⟨c0, c1, c2⟩ := hca k x hx
      have i1 : (k : Int) < (xs.length : Int) := by omega
      have HT : Hid ((xs.take (k + 1)).map cleanV = (xs.take k).map cleanV ++ [cleanV x]) := by
        show _ = _
        obtain ⟨h1, rfl⟩ := List.getElem?_eq_some_iff.1 hx
        rw [List.take_succ_eq_append_getElem h1, List.map_append]; rfl
      have hl : ((xs.take k).map cleanV).length = k := by simp; omega
      have HL := hide hl
      have HC := hide (clean_any x)
      generalize cleanV x = cx at *
      generalize (xs.take k).map cleanV = zs at *
      clear hca hx hl
      go_wp2_with (first
        | (go_at_call 9; refine (unhide HC _).mono ?_; rintro e w1 ⟨rfl, hb1⟩; rw [Val.open_]; have ho1 := (OwnV.later (w1 := _) ho (below_alloc (Below.refl _ _) _)).later hb1; have hbw := below_step (below_alloc hbel _) hb1)
        | (at_builtin; refine wpList_append_own_at _ rfl (.tmp 12) (.tmp 15) 30 rfl w.heap.size 23 i0 (.agg #[.int .i64 0, .int .i64 0, .string ⟨#[]⟩]) 3 32 Try.underlying30 hi hz0 hz1 hz2 rfl (by decide) _ _ _ rfl (World.ownsRow.alloc ho1 _) ⟨w1.heap.size, 0, none⟩ 1 1 (c3 cx) rfl rfl ?_ (by intro u hu; simp [c3] at hu; rcases hu with rfl | rfl | rfl <;> rfl) (by rw [unhide HL]; unfold maxLen; omega) (by rw [unhide HL]; omega) (by have := hbw.size; simp; omega) ?_; rotate_right; intro v1 w2 hown1 hgrow1 _ hat1; have hg1 := Grew.app (Grew.refl w1 u3) hgrow1 hat1; have ho2 := ownV_app hown1; clear hown1 hgrow1 hat1))
      · have hb2 : Below w.heap.size w w2 := hbw.trans (hg1.below hbw.size (fun g hg => (ownV_lt ho1 hg).1))
        rw [← unhide HT] at ho2
        go_roundw
        case rel => exact ⟨k + 1, by omega, by go_num, ho2, hb2⟩
        case measure => simp [intOf]; omega
      · intro j u hj
        match j, hj with
        | 0, hj => simp [c3] at hj; subst hj; simp [Addr.add, go_sem]
        | 1, hj => simp [c3] at hj; subst hj; simp [Addr.add, go_sem]
        | 2, hj => simp [c3] at hj; subst hj; simp [Addr.add, go_sem]
        | j + 3, hj => simp [c3] at hj
    · have e : k = xs.length := by omega
      have i1 : ¬ (k : Int) < (xs.length : Int) := by omega
      have HE : Hid (xs.take k = xs) := List.take_of_length_le (by omega)
      clear e
      go_wp2
      go_ret
      exact ⟨_, rfl, by rw [unhide HE] at ho; exact ho, hbel⟩

set_option maxHeartbeats 2000000 in
set_option maxRecDepth 100000 in
theorem same_any (aa ab : Option Addr) (ca cb : Nat) (xs : List Val) (w : World) (hla : xs.length ≤ maxLen) (ha : RowAt w aa xs) (hb : RowAt w ab xs) :
    Calls Try.prog 34 #[.slice aa xs.length ca, .slice ab xs.length cb] w fun e w' => e = .returned (.bool true) ∧ Below w.heap.size w w' := by
  unfold maxLen at hla
  go_enter Try.func34, Try.ntmps34
  go_wp2_with fail
  go_loopw [13] (fun i wr => ∃ k : Nat, k ≤ xs.length ∧ i = .int .i64 k ∧ Below w.heap.size w wr) (fun i wx => xs.length - (intOf i).toNat)
  case atStart => exact ⟨0, Nat.zero_le _, rfl, Below.refl _ _⟩
  case round =>
    obtain ⟨k, hk1, rfl, hbel⟩ := hrel
    have ha' := ha.later hbel
    have hb' := hb.later hbel
    by_cases h1 : k < xs.length
    · obtain ⟨x, hx⟩ : ∃ x, xs[k]? = some x := ⟨_, List.getElem?_eq_getElem h1⟩
      rcases ha' with e | ⟨ba, oa, rfl, hca⟩
      · subst e; simp at h1
      rcases hb' with e | ⟨bb, ob, rfl, hcb⟩
      · subst e; simp at h1
      obtain ⟨c0, c1, c2⟩ := hca k x hx
      obtain ⟨d0, d1, d2⟩ := hcb k x hx
      have i1 : (k : Int) < (xs.length : Int) := by omega
      clear hca hcb hx
      go_wp2_with fail
      go_quiet (fail)
      go_wp2
      go_roundw
      case rel => exact ⟨k + 1, by omega, by go_num, below_drewN hbel _⟩
      case measure => simp [intOf]; omega
    · have i1 : ¬ (k : Int) < (xs.length : Int) := by omega
      go_wp2
      go_ret
      exact ⟨rfl, hbel⟩

end Go.Proofs.Ytbmeoabafmpacaa
