import Derived.Test.YtbmeoabafmpacaaCellP
import Derived.Test.YtbmeoabafmpacaaKeysLaw
set_option linter.unusedSimpArgs false
set_option linter.unusedVariables false
namespace Go.Proofs.Ytbmeoabafmpacaa
open Go.RowKit Go.Sort

theorem rowD_len : ∀ (m : Nat) (s : ByteArray) (xs : List Val), rowD m s = some xs → xs.length ≤ m
  | 0, s, xs, h => by
    simp [rowD] at h
    simp [h]
  | m + 1, s, xs, h => by
    rw [rowD] at h
    split at h
    · simp at h; subst h; simp
    · split at h
      · cases h
      · rename_i x n _
        cases hd : rowD m (s.extract n s.size) with
        | none => rw [hd] at h; cases h
        | some ys =>
          rw [hd] at h
          simp at h
          subst h
          have := rowD_len m _ ys hd
          simp
          omega
theorem decode_len {s : ByteArray} {xs : List Val} (h : decode s = some xs) : xs.length ≤ s.size := rowD_len _ _ _ h
theorem decode_one : decode ⟨#[1]⟩ = some [Val.null] := by
  have h := decode_key [Val.null] (by intro x hx; simp at hx; subst hx; exact ⟨by decide, by decide⟩)
  have e : toB (keyL [Val.null]) = ⟨#[1]⟩ := by decide
  have c : [Val.null].map cleanV = [Val.null] := by simp [cleanV, Val.null]
  rw [e, c] at h
  exact h

set_option maxHeartbeats 2000000 in
set_option maxRecDepth 100000 in
theorem law_reads (s : ByteArray) (w : World) (hs : s.size ≤ 100000000) :
    Calls Try.prog 5 #[.string s] w fun e w' => e = .returned (.bool true) ∧ Below w.heap.size w w' := by
  have H1 := hide (fun W => row_any s W (by omega))
  have H2 := hide (fun W => rrow_any s W (by omega))
  have H3 := hide (fun W => row_any ⟨#[1]⟩ W (by decide))
  rw [decode_one] at H3
  have hbel : Below w.heap.size w w := Below.refl _ _
  have hl : ∀ xs, decode s = some xs → xs.length ≤ maxLen := fun xs h => by have := decode_len h; unfold maxLen; omega
  cases hd : decode s with
  | none =>
    rw [hd] at H1 H2
    have H5 := hide (fun W => lsame_any none none 0 0 [] W (by decide) (.inl rfl) (.inl rfl))
    clear hl hd hs
    go_enter Try.func5, Try.ntmps5
    go_wp2_with fail
    refine (unhide H1 _).mono ?_
    rintro e w1 ⟨rfl, hb1⟩
    replace hbel := below_step hbel hb1
    clear hb1
    go_wp2_with fail
    refine (unhide H2 _).mono ?_
    rintro e w1 ⟨rfl, hb1⟩
    replace hbel := below_step hbel hb1
    clear hb1
    go_wp2_with fail
    refine (unhide H3 _).mono ?_
    rintro e w1 ⟨⟨v3, rfl, ho3⟩, hb1⟩
    replace hbel := below_step hbel hb1
    clear hb1 ho3
    go_wp2_with (go_at_call 31; refine (lnum_any _ _).mono ?_; rintro e w' ⟨rfl, rfl⟩)
    refine (unhide H5 _).mono ?_
    rintro e w1 ⟨rfl, hb1⟩
    replace hbel := below_step hbel hb1
    clear hb1
    go_wp2_with (go_at_call 31; refine (lnum_any _ _).mono ?_; rintro e w' ⟨rfl, rfl⟩)
    go_ret
    exact ⟨rfl, hbel⟩
  | some xs =>
    rw [hd] at H1 H2
    have hx := hl xs hd
    have H5 := hide (fun W a b c d h1 h2 => lsame_any a b c d xs W hx h1 h2)
    clear hl hd hs
    go_enter Try.func5, Try.ntmps5
    go_wp2_with fail
    refine (unhide H1 _).mono ?_
    rintro e w1 ⟨⟨v1, rfl, ho1⟩, hb1⟩
    obtain ⟨a1, q1, rfl, hr1⟩ := ownV_row ho1
    replace hbel := below_step hbel hb1
    clear hb1 ho1
    go_wp2_with fail
    refine (unhide H2 _).mono ?_
    rintro e w1 ⟨⟨v2, rfl, ho2⟩, hb1⟩
    obtain ⟨a2, q2, rfl, hr2⟩ := ownV_row ho2
    replace hbel := below_step hbel hb1
    replace hr1 := hr1.later hb1
    clear hb1 ho2
    go_wp2_with fail
    refine (unhide H3 _).mono ?_
    rintro e w1 ⟨⟨v3, rfl, ho3⟩, hb1⟩
    replace hbel := below_step hbel hb1
    replace hr1 := hr1.later hb1
    replace hr2 := hr2.later hb1
    clear hb1 ho3
    go_wp2_with (go_at_call 31; refine (lnum_any _ _).mono ?_; rintro e w' ⟨rfl, rfl⟩)
    refine (unhide H5 _ _ _ _ _ hr1 hr2).mono ?_
    rintro e w1 ⟨rfl, hb1⟩
    replace hbel := below_step hbel hb1
    clear hb1 hr1 hr2
    go_wp2_with (go_at_call 31; refine (lnum_any _ _).mono ?_; rintro e w' ⟨rfl, rfl⟩)
    go_ret
    exact ⟨rfl, hbel⟩

end Go.Proofs.Ytbmeoabafmpacaa
