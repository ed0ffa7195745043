import Derived.Test.YtgmfbjehdcdioaaOfE
set_option linter.unusedSimpArgs false
set_option linter.unusedVariables false
namespace Go.Proofs.Ytgmfbjehdcdioaa
open Go.RowKit Go.Sort

def lisE (E : Nat → Nat × Cn) (n : Nat) : List (Nat × Cn) := (List.range n).map E
theorem lisE_at (E : Nat → Nat × Cn) {n i : Nat} (h : i < n) : (lisE E n)[i]? = some (E i) := by simp [lisE, h]
theorem lisE_len (E : Nat → Nat × Cn) (n : Nat) : (lisE E n).length = n := by simp [lisE]
theorem lisE_sw (E : Nat → Nat × Cn) {n i j : Nat} (hi : i < n) (hj : j < n) : (lisE (sw E i j) n).Perm (lisE E n) := by
  have h1 : i < (lisE E n).length := by rw [lisE_len]; exact hi
  have h2 : j < (lisE E n).length := by rw [lisE_len]; exact hj
  have e : ((lisE E n).set i (lisE E n)[j]).set j (lisE E n)[i] = lisE (sw E i j) n := by
    have e1 : (lisE E n)[j] = E j := by simp [lisE]
    have e2 : (lisE E n)[i] = E i := by simp [lisE]
    rw [e1, e2]
    apply List.ext_getElem?
    intro m
    by_cases hm : m < n
    · rw [lisE_at _ hm]
      by_cases q : m = j
      · subst q
        rw [List.getElem?_set_self (by simp [lisE_len, hm]), sw_r]
      · rw [List.getElem?_set_ne (Ne.symm q)]
        by_cases q1 : m = i
        · subst q1
          rw [List.getElem?_set_self (by simp [lisE_len, hm]), sw_l]
        · rw [List.getElem?_set_ne (Ne.symm q1), lisE_at _ hm, sw_o q1 q]
    · rw [List.getElem?_eq_none (by simp [lisE_len]; omega), List.getElem?_eq_none (by simp [lisE_len]; omega)]
  rw [← e]
  exact List.set_set_perm h1 h2
def keyE (E : Nat → Nat × Cn) : Nat → Nat := fun i => (E i).2.hi
theorem key_sw (E : Nat → Nat × Cn) (i j : Nat) : keyE (sw E i j) = sw (keyE E) i j := by
  funext k; unfold keyE sw; split
  · rfl
  · split <;> rfl

/-- The queue since w0: the same counters, in another order. -/
structure QuN (w0 : World) (b : Nat) (S : Value) (n : Nat) (E0 : Nat → Nat × Cn) (w : World) (E : Nat → Nat × Cn) : Prop where
  q : Qu w b S n E
  ky : Ky (fq S n E0) w0 w
  perm : (lisE E n).Perm (lisE E0 n)
  sub : ∀ k, fq S n E k → fq S n E0 k
  box : ∀ k, fq S n E0 k → k ≠ b
theorem QuN.start {w : World} {b n : Nat} {S : Value} {E : Nat → Nat × Cn} (h : Qu w b S n E) (hb : ∀ k, fq S n E k → k ≠ b) : QuN w b S n E w E := ⟨h, Ky.refl _ _, List.Perm.refl _, fun k hk => hk, hb⟩
theorem QuN.swap {w0 w w' : World} {b n i j : Nat} {S : Value} {E0 E : Nat → Nat × Cn} (h : QuN w0 b S n E0 w E) (hi : i < n) (hj : j < n) (hs : SwA w b S n E i j w') : QuN w0 b S n E0 w' (sw E i j) :=
  ⟨hs.1, h.ky.trans hs.2.1 fun k hk => .inl (h.sub k hk), (lisE_sw E hi hj).trans h.perm, fun k hk => h.sub k (hs.2.2 k hk), h.box⟩
theorem QuN.later {w0 w w' : World} {b n : Nat} {S : Value} {E0 E : Nat → Nat × Cn} (h : QuN w0 b S n E0 w E) (hb : Below w.heap.size w w') : QuN w0 b S n E0 w' E :=
  ⟨h.q.later hb, h.ky.trans (Ky.of_below (F := fq S n E0) hb) fun k hk => .inl hk, h.perm, h.sub, h.box⟩

set_option maxHeartbeats 1000000 in
set_option maxRecDepth 100000 in
theorem up_any {w : World} {b n : Nat} {S : Value} {E : Nat → Nat × Cn} (h : Qu w b S n E) (hb : ∀ k, fq S n E k → k ≠ b) {j : Nat} (hj : j < n) (hn : n ≤ 2000) (hu : HeapU n (keyE E) j) :
    Calls Try.prog 54 #[.iface 82 (.pointer (some ⟨b, 4, none⟩)), .int .i64 j] w fun e w' => e = .returned (.tuple #[]) ∧ ∃ E', QuN w b S n E w' E' ∧ Heap n (keyE E') := by
  have HST : Hid (QuN w b S n E w E ∧ HeapU n (keyE E) j) := ⟨QuN.start h hb, hu⟩
  clear h hb hu
  go_enter Try.func54, Try.ntmps54
  go_wp2_with fail
  go_loopw [1] (fun s wr => ∃ (j' : Nat) (E' : Nat → Nat × Cn), j' < n ∧ s = .int .i64 (j' : Int) ∧ Hid (QuN w b S n E wr E' ∧ HeapU n (keyE E') j')) (fun s _ => (intOf s).toNat)
  case atStart => exact ⟨j, E, hj, rfl, HST⟩
  case round =>
    obtain ⟨j', E', hj', rfl, HR⟩ := hrel
    by_cases h0 : j' = 0
    · subst h0
      have e0 : ((0 : Int) - 1).tdiv 2 = 0 := by decide
      have HD := hide ((unhide HR).2.done (.inl rfl))
      go_wp2_with fail
      go_end0
      exact ⟨rfl, E', (unhide HR).1, unhide HD⟩
    · obtain ⟨i', hi'⟩ : ∃ i', (j' - 1) / 2 = i' := ⟨_, rfl⟩
      have e1 : ((j' : Int) - 1) / 2 = (i' : Int) := by omega
      have e3 : (0 : Int) ≤ (j' : Int) - 1 := by omega
      have hin : i' < n := by omega
      have hne : ¬ (i' : Int) = (j' : Int) := by omega
      have hq := (unhide HR).1.q
      have ml : ∀ W : World, Below wr.heap.size wr W → (method 242 82 (.pointer (some ⟨b, 4, none⟩)) "Less").run Try.prog W = .ok (94, S) W := fun W hW => mLess (cell_later hW hq.cell)
      have ml0 := ml wr (Below.refl _ _)
      have HL := hide (less_any hq hj' hin hn)
      obtain ⟨bb, hbb⟩ : ∃ bb, decide ((E' j').2.hi < (E' i').2.hi) = bb := ⟨_, rfl⟩
      rw [hbb] at HL
      have HII := hide hi'
      have HMS : Hid (∀ W : World, Below wr.heap.size wr W → (method 242 82 (.pointer (some ⟨b, 4, none⟩)) "Swap").run Try.prog W = .ok (95, S) W) := fun W hW => mSwap (cell_later hW hq.cell)
      have HSW : Hid (∀ W : World, Below wr.heap.size wr W → Calls Try.prog 95 #[S, .int .i64 i', .int .i64 j'] W fun e w' => e = .returned (.tuple #[]) ∧ SwA W b S n E' i' j' w') := fun W hW => swap_any (hq.later hW) hin hj' hn fun k hk => (unhide HR).1.box k ((unhide HR).1.sub k hk)
      clear hq ml hi'
      cases bb
      · have HD := hide ((unhide HR).2.done (.inr (by rw [unhide HII]; have := of_decide_eq_false hbb; simp only [keyE]; omega)))
        clear hbb
        go_wp2_with (go_at_call 94; refine (unhide HL).mono ?_; rintro _ w2 ⟨rfl, hb2⟩; replace hb2 := hide hb2)
        go_end0
        exact ⟨rfl, E', (unhide HR).1.later (unhide hb2), unhide HD⟩
      · have HS2 := hide ((unhide HR).2.step hj' (by omega) (unhide HII) (show keyE E' j' < keyE E' i' from of_decide_eq_true hbb))
        clear hbb
        go_wp2_with (first
          | (go_at_call 94; refine (unhide HL).mono ?_; rintro _ w2 ⟨rfl, hb2⟩; replace hb2 := hide hb2; have ms := unhide HMS _ (unhide hb2))
          | (go_at_call 95; refine (unhide HSW _ (unhide hb2)).mono ?_; rintro _ w3 ⟨rfl, hs3⟩; replace hs3 := hide hs3))
        go_roundw
        case rel => exact ⟨i', sw E' i' j', hin, rfl, ((unhide HR).1.later (unhide hb2)).swap hin hj' (unhide hs3), by rw [key_sw]; exact unhide HS2⟩
        case measure => simp [intOf]; omega
end Go.Proofs.Ytgmfbjehdcdioaa
