import Derived.Test.YtgmfbjehdcdioaaOfF
set_option linter.unusedSimpArgs false
set_option linter.unusedVariables false
namespace Go.Proofs.Ytgmfbjehdcdioaa
open Go.RowKit Go.Sort

/-- What down answers. -/
def DnA (w : World) (b : Nat) (S : Value) (n m : Nat) (E : Nat → Nat × Cn) (e : Ending) (w' : World) : Prop :=
  ∃ bb E', e = .returned (.bool bb) ∧ QuN w b S n E w' E' ∧ Heap m (keyE E') ∧ ∀ k, m ≤ k → E' k = E k

set_option maxHeartbeats 1000000 in
set_option maxRecDepth 100000 in
theorem down_any {w : World} {b n m : Nat} {S : Value} {E : Nat → Nat × Cn} (h : Qu w b S n E) (hb : ∀ k, fq S n E k → k ≠ b) {i0 : Nat} (hm : m ≤ n) (hi0 : i0 ≤ 2000) (hn : n ≤ 2000) (hu : HeapB m (keyE E) i0) :
    Calls Try.prog 53 #[.iface 82 (.pointer (some ⟨b, 4, none⟩)), .int .i64 i0, .int .i64 m] w fun e w' => DnA w b S n m E e w' := by
  have HST : Hid (QuN w b S n E w E ∧ HeapB m (keyE E) i0 ∧ ∀ k, m ≤ k → E k = E k) := ⟨QuN.start h hb, hu, fun _ _ => rfl⟩
  clear h hb hu
  go_enter Try.func53, Try.ntmps53
  go_wp2_with fail
  go_loopw [7] (fun s wr => ∃ (i : Nat) (E' : Nat → Nat × Cn), i ≤ 2000 ∧ s = .int .i64 (i : Int) ∧ Hid (QuN w b S n E wr E' ∧ HeapB m (keyE E') i ∧ ∀ k, m ≤ k → E' k = E k)) (fun s _ => 2000 - (intOf s).toNat)
  case atStart => exact ⟨i0, E, hi0, rfl, (unhide HST).1, (unhide HST).2.1, fun _ _ => rfl⟩
  case round =>
    obtain ⟨i, E', hi2, rfl, HR⟩ := hrel
    by_cases hA : m ≤ 2 * i + 1
    · have a1 : (m : Int) ≤ 2 * (i : Int) + 1 := by omega
      have HD := hide ((unhide HR).2.1.none hA)
      go_wp2_with fail
      go_ret
      exact ⟨_, E', rfl, (unhide HR).1, unhide HD, (unhide HR).2.2⟩
    · have a1 : ¬ (m : Int) ≤ 2 * (i : Int) + 1 := by omega
      have a2 : ¬ 2 * (i : Int) + 1 < 0 := by omega
      have hi : i < n := by omega
      have hj1 : 2 * i + 1 < n := by omega
      have hq := (unhide HR).1.q
      have HML : Hid (∀ W : World, Below wr.heap.size wr W → (method 242 82 (.pointer (some ⟨b, 4, none⟩)) "Less").run Try.prog W = .ok (94, S) W) := fun W hW => mLess (cell_later hW hq.cell)
      have HMS : Hid (∀ W : World, Below wr.heap.size wr W → (method 242 82 (.pointer (some ⟨b, 4, none⟩)) "Swap").run Try.prog W = .ok (95, S) W) := fun W hW => mSwap (cell_later hW hq.cell)
      have HLE : Hid (∀ (W : World) (p q : Nat), Below wr.heap.size wr W → p < n → q < n → Calls Try.prog 94 #[S, .int .i64 p, .int .i64 q] W fun e w' => e = .returned (.bool (decide ((E' p).2.hi < (E' q).2.hi))) ∧ Below W.heap.size W w') := fun W p q hW hp hq' => less_any (hq.later hW) hp hq' hn
      have HSW : Hid (∀ (W : World) (p q : Nat), Below wr.heap.size wr W → p < n → q < n → Calls Try.prog 95 #[S, .int .i64 p, .int .i64 q] W fun e w' => e = .returned (.tuple #[]) ∧ SwA W b S n E' p q w') := fun W p q hW hp hq' => swap_any (hq.later hW) hp hq' hn fun k hk => (unhide HR).1.box k ((unhide HR).1.sub k hk)
      have ml0 := unhide HML wr (Below.refl _ _)
      clear hq
      obtain ⟨j1, hj1e⟩ : ∃ j1, 2 * i + 1 = j1 := ⟨_, rfl⟩
      have e1 : 2 * (i : Int) + 1 = (j1 : Int) := by omega
      rw [hj1e] at hj1
      rw [e1] at a1 a2
      have hj1m : j1 < m := by omega
      by_cases hB : j1 + 1 < m
      · have b1 : (j1 : Int) + 1 < (m : Int) := by omega
        have hj2 : j1 + 1 < n := by omega
        have HL1 := hide (unhide HLE wr (j1 + 1) j1 (Below.refl _ _) hj2 hj1)
        have e2 : ((j1 + 1 : Nat) : Int) = (j1 : Int) + 1 := by omega
        rw [e2] at HL1
        obtain ⟨bb, hbb⟩ : ∃ bb, decide ((E' (j1 + 1)).2.hi < (E' j1).2.hi) = bb := ⟨_, rfl⟩
        rw [hbb] at HL1
        cases bb
        · have hlt := of_decide_eq_false hbb
          have hch : ∀ c, 0 < c → c < m → (c - 1) / 2 = i → keyE E' j1 ≤ keyE E' c := fun c h0 hc hp => by
            have : c = j1 ∨ c = j1 + 1 := by omega
            rcases this with rfl | rfl
            · exact Nat.le_refl _
            · simp only [keyE]; omega
          clear hbb hlt
          obtain ⟨cc, hcc⟩ : ∃ cc, decide ((E' j1).2.hi < (E' i).2.hi) = cc := ⟨_, rfl⟩
          cases cc
          · have HD := hide ((unhide HR).2.1.done hch (by have := of_decide_eq_false hcc; simp only [keyE]; omega))
            go_wp2_with (first
              | (go_at_call 94; refine (unhide HL2).mono ?_; rintro _ w3 ⟨rfl, hb3⟩; replace hb3 := hide (below_step (unhide hb2) (unhide hb3)))
              | (go_at_call 94; refine (unhide HL1).mono ?_; rintro _ w2 ⟨rfl, hb2⟩; replace hb2 := hide hb2; have ml2 := unhide HML _ (unhide hb2); have HL2 := hide (unhide HLE _ j1 i (unhide hb2) hj1 hi); try rw [e2] at HL2; rw [hcc] at HL2; clear HL1))
            go_ret
            exact ⟨_, E', rfl, (unhide HR).1.later (unhide hb3), unhide HD, (unhide HR).2.2⟩
          · have HS2 := hide ((unhide HR).2.1.step (j := j1) (by omega) (by omega) (by omega) hch (show keyE E' j1 < keyE E' i from of_decide_eq_true hcc))
            go_wp2_with (first
              | (go_at_call 95; refine (unhide HS3).mono ?_; rintro _ w4 ⟨rfl, hs4⟩; replace hs4 := hide hs4)
              | (go_at_call 94; refine (unhide HL2).mono ?_; rintro _ w3 ⟨rfl, hb3⟩; replace hb3 := hide (below_step (unhide hb2) (unhide hb3)); have ms := unhide HMS _ (unhide hb3); have HS3 := hide (unhide HSW _ i j1 (unhide hb3) hi hj1); try rw [e2] at HS3)
              | (go_at_call 94; refine (unhide HL1).mono ?_; rintro _ w2 ⟨rfl, hb2⟩; replace hb2 := hide hb2; have ml2 := unhide HML _ (unhide hb2); have HL2 := hide (unhide HLE _ j1 i (unhide hb2) hj1 hi); try rw [e2] at HL2; rw [hcc] at HL2; clear HL1))
            go_roundw
            case rel => exact ⟨j1, sw E' i j1, by omega, rfl, ((unhide HR).1.later (unhide hb3)).swap hi hj1 (unhide hs4), by rw [key_sw]; exact unhide HS2, fun k hk => by rw [sw_o (by omega) (by omega)]; exact (unhide HR).2.2 k hk⟩
            case measure => simp [intOf]; omega
        · have hlt := of_decide_eq_true hbb
          have hch : ∀ c, 0 < c → c < m → (c - 1) / 2 = i → keyE E' (j1 + 1) ≤ keyE E' c := fun c h0 hc hp => by
            have : c = j1 ∨ c = j1 + 1 := by omega
            rcases this with rfl | rfl
            · simp only [keyE]; omega
            · exact Nat.le_refl _
          clear hbb hlt
          obtain ⟨cc, hcc⟩ : ∃ cc, decide ((E' (j1 + 1)).2.hi < (E' i).2.hi) = cc := ⟨_, rfl⟩
          cases cc
          · have HD := hide ((unhide HR).2.1.done hch (by have := of_decide_eq_false hcc; simp only [keyE]; omega))
            go_wp2_with (first
              | (go_at_call 94; refine (unhide HL2).mono ?_; rintro _ w3 ⟨rfl, hb3⟩; replace hb3 := hide (below_step (unhide hb2) (unhide hb3)))
              | (go_at_call 94; refine (unhide HL1).mono ?_; rintro _ w2 ⟨rfl, hb2⟩; replace hb2 := hide hb2; have ml2 := unhide HML _ (unhide hb2); have HL2 := hide (unhide HLE _ (j1 + 1) i (unhide hb2) hj2 hi); try rw [e2] at HL2; rw [hcc] at HL2; clear HL1))
            go_ret
            exact ⟨_, E', rfl, (unhide HR).1.later (unhide hb3), unhide HD, (unhide HR).2.2⟩
          · have HS2 := hide ((unhide HR).2.1.step (j := (j1 + 1)) (by omega) (by omega) (by omega) hch (show keyE E' (j1 + 1) < keyE E' i from of_decide_eq_true hcc))
            go_wp2_with (first
              | (go_at_call 95; refine (unhide HS3).mono ?_; rintro _ w4 ⟨rfl, hs4⟩; replace hs4 := hide hs4)
              | (go_at_call 94; refine (unhide HL2).mono ?_; rintro _ w3 ⟨rfl, hb3⟩; replace hb3 := hide (below_step (unhide hb2) (unhide hb3)); have ms := unhide HMS _ (unhide hb3); have HS3 := hide (unhide HSW _ i (j1 + 1) (unhide hb3) hi hj2); try rw [e2] at HS3)
              | (go_at_call 94; refine (unhide HL1).mono ?_; rintro _ w2 ⟨rfl, hb2⟩; replace hb2 := hide hb2; have ml2 := unhide HML _ (unhide hb2); have HL2 := hide (unhide HLE _ (j1 + 1) i (unhide hb2) hj2 hi); try rw [e2] at HL2; rw [hcc] at HL2; clear HL1))
            go_roundw
            case rel => exact ⟨(j1 + 1), sw E' i (j1 + 1), by omega, by go_num, ((unhide HR).1.later (unhide hb3)).swap hi hj2 (unhide hs4), by rw [key_sw]; exact unhide HS2, fun k hk => by rw [sw_o (by omega) (by omega)]; exact (unhide HR).2.2 k hk⟩
            case measure => simp [intOf]; omega
      · have b1 : ¬ (j1 : Int) + 1 < (m : Int) := by omega
        have hch : ∀ c, 0 < c → c < m → (c - 1) / 2 = i → keyE E' j1 ≤ keyE E' c := fun c h0 hc hp => by
          have : c = j1 := by omega
          subst this; exact Nat.le_refl _
        obtain ⟨cc, hcc⟩ : ∃ cc, decide ((E' j1).2.hi < (E' i).2.hi) = cc := ⟨_, rfl⟩
        have HL2 := hide (unhide HLE wr j1 i (Below.refl _ _) hj1 hi)
        rw [hcc] at HL2
        cases cc
        · have HD := hide ((unhide HR).2.1.done hch (by have := of_decide_eq_false hcc; simp only [keyE]; omega))
          go_wp2_with (first
            | (go_at_call 94; refine (unhide HL2).mono ?_; rintro _ w3 ⟨rfl, hb3⟩; replace hb3 := hide (below_step (Below.refl _ _) (unhide hb3))))
          go_ret
          exact ⟨_, E', rfl, (unhide HR).1.later (unhide hb3), unhide HD, (unhide HR).2.2⟩
        · have HS2 := hide ((unhide HR).2.1.step (j := j1) (by omega) (by omega) (by omega) hch (show keyE E' j1 < keyE E' i from of_decide_eq_true hcc))
          go_wp2_with (first
            | (go_at_call 95; refine (unhide HS3).mono ?_; rintro _ w4 ⟨rfl, hs4⟩; replace hs4 := hide hs4)
            | (go_at_call 94; refine (unhide HL2).mono ?_; rintro _ w3 ⟨rfl, hb3⟩; replace hb3 := hide (below_step (Below.refl _ _) (unhide hb3)); have ms := unhide HMS _ (unhide hb3); have HS3 := hide (unhide HSW _ i j1 (unhide hb3) hi hj1); try rw [e2] at HS3))
          go_roundw
          case rel => exact ⟨j1, sw E' i j1, by omega, rfl, ((unhide HR).1.later (unhide hb3)).swap hi hj1 (unhide hs4), by rw [key_sw]; exact unhide HS2, fun k hk => by rw [sw_o (by omega) (by omega)]; exact (unhide HR).2.2 k hk⟩
          case measure => simp [intOf]; omega
end Go.Proofs.Ytgmfbjehdcdioaa
