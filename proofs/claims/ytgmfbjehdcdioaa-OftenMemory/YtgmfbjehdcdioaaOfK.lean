import Derived.Test.YtgmfbjehdcdioaaOfJ
set_option linter.unusedSimpArgs false
set_option linter.unusedVariables false
namespace Go.Proofs.Ytgmfbjehdcdioaa
open Go.RowKit Go.Sort

/-- What queue.Pop leaves. -/
def PoA (w : World) (b : Nat) (S : Value) (n : Nat) (E : Nat → Nat × Cn) (F : Nat → Value) (e : Ending) (w' : World) : Prop :=
  e = .returned (.iface 57 (.pointer (some ⟨(E n).1, 0, none⟩))) ∧ ∃ S', Qu w' b S' n E ∧ w'.rowIs b 54 5 (fun j => if j = 4 then S' else F j) ∧ Ky (fun k => fq S (n + 1) E k ∨ k = b) w w' ∧ ∀ k, fq S' n E k → fq S (n + 1) E k

set_option maxHeartbeats 1000000 in
set_option maxRecDepth 100000 in
theorem qpop_any {w : World} {b n : Nat} {S : Value} {E : Nat → Nat × Cn} {F : Nat → Value} (h : Qu w b S (n + 1) E) (hbx : w.rowIs b 54 5 F) (hb : ∀ k, fq S (n + 1) E k → k ≠ b) (hn : n ≤ 1999) :
    Calls Try.prog 96 #[.pointer (some ⟨b, 4, none⟩)] w fun e w' => PoA w b S n E F e w' := by
  obtain ⟨lb, cap, hS⟩ := h.slice (by omega)
  have HF := hide (h.popped hS hbx hb)
  have hcap : n + 1 ≤ cap ∧ cap ≤ 9223372036854775807 := by
    rcases h.lst.2 with ⟨e, h0⟩ | ⟨g, cap', cur, he, _, _, h3, h4, _⟩
    · omega
    · rw [hS] at he; cases he; exact ⟨h3, by unfold maxLen at h4; omega⟩
  have hlbb : ¬ lb = b := fun e => hb lb (.inl (by rw [hS]; rfl)) e
  have hlbb' : ¬ b = lb := fun e => hlbb e.symm
  have c0 := h.cell
  obtain ⟨c1, f1⟩ := h.at hS (show n < n + 1 by omega)
  have f4 := hbx.frozen 4
  have HPO : Hid (PoA w b S n E F (.returned (.iface 57 (.pointer (some ⟨(E n).1, 0, none⟩)))) ((w.setCell ⟨lb, n, none⟩ (.pointer none)).setCell ⟨b, 4, none⟩ (.slice (some ⟨lb, 0, none⟩) n cap))) := ⟨rfl, _, unhide HF⟩
  obtain ⟨p, hp⟩ : ∃ p, (E n).1 = p := ⟨_, rfl⟩
  rw [hp] at c1 HPO
  rw [hS] at c0
  have i1 : ((n + 1 : Nat) : Int) - 1 = (n : Int) := by omega
  have i2 : (n : Int) < ((n + 1 : Nat) : Int) := by omega
  have i3 : (n : Int) ≤ (cap : Int) := by omega
  have i4 : (cap : Int) ≤ 9223372036854775807 := by omega
  clear h hbx hb HF hp
  go_enter Try.func96, Try.ntmps96
  go_wp2
  go_ret
  exact unhide HPO

/-- What heap.Pop leaves. -/
def HoA (w : World) (b : Nat) (S : Value) (n : Nat) (E : Nat → Nat × Cn) (F : Nat → Value) (e : Ending) (w' : World) : Prop :=
  e = .returned (.iface 57 (.pointer (some ⟨(E 0).1, 0, none⟩))) ∧ ∃ S' E', Qu w' b S' n E' ∧ Heap n (keyE E') ∧ (lisE E' n ++ [E 0]).Perm (lisE E (n + 1)) ∧ w'.rowIs b 54 5 (fun j => if j = 4 then S' else F j) ∧ Ky (fun k => fq S (n + 1) E k ∨ k = b) w w' ∧ ∀ k, fq S' n E' k → fq S (n + 1) E k

theorem lisE_succ (E : Nat → Nat × Cn) (n : Nat) : lisE E (n + 1) = lisE E n ++ [E n] := by unfold lisE; rw [List.range_succ, List.map_append]; rfl

set_option maxHeartbeats 1000000 in
set_option maxRecDepth 100000 in
theorem hpop_any {w : World} {b n : Nat} {S : Value} {E : Nat → Nat × Cn} {F : Nat → Value} (h : Qu w b S (n + 1) E) (hH : Heap (n + 1) (keyE E)) (hbx : w.rowIs b 54 5 F) (hb : ∀ k, fq S (n + 1) E k → k ≠ b) (hn : n ≤ 1999) :
    Calls Try.prog 55 #[.iface 82 (.pointer (some ⟨b, 4, none⟩))] w fun e w' => HoA w b S n E F e w' := by
  obtain ⟨lb, cap, hS⟩ := h.slice (by omega)
  subst hS
  have ml := mLen (W := w) h.cell
  have ms := mSwap (W := w) h.cell
  have HSW := hide (swap_any h (i := 0) (j := n) (by omega) (by omega) (by omega) hb)
  have HDN : Hid (∀ w2, SwA w b (.slice (some ⟨lb, 0, none⟩) (n + 1) cap) (n + 1) E 0 n w2 → Calls Try.prog 53 #[.iface 82 (.pointer (some ⟨b, 4, none⟩)), .int .i64 0, .int .i64 n] w2 fun e w' => DnA w2 b (.slice (some ⟨lb, 0, none⟩) (n + 1) cap) (n + 1) n (sw E 0 n) e w') := fun w2 hs => by
    have := down_any (m := n) (i0 := 0) hs.1 (fun k hk => hb k (hs.2.2 k hk)) (by omega) (by omega) (by omega) (by rw [key_sw]; exact hH.lastFirst)
    exact this
  have HPO : Hid (∀ w2 w3 E2, SwA w b (.slice (some ⟨lb, 0, none⟩) (n + 1) cap) (n + 1) E 0 n w2 → QuN w2 b (.slice (some ⟨lb, 0, none⟩) (n + 1) cap) (n + 1) (sw E 0 n) w3 E2 → Heap n (keyE E2) → (∀ k, n ≤ k → E2 k = sw E 0 n k) →
      (method 242 82 (.pointer (some ⟨b, 4, none⟩)) "Pop").run Try.prog w3 = .ok (96, .pointer (some ⟨b, 4, none⟩)) w3 ∧ Calls Try.prog 96 #[.pointer (some ⟨b, 4, none⟩)] w3 fun e w' => HoA w b (.slice (some ⟨lb, 0, none⟩) (n + 1) cap) n E F e w') := fun w2 w3 E2 hs hQ hH2 hE => by
    refine ⟨mPop _ _, ?_⟩
    have hlast : E2 n = E 0 := by rw [hE n (Nat.le_refl _), sw_r]
    have hk23 : Ky (fq (.slice (some ⟨lb, 0, none⟩) (n + 1) cap) (n + 1) E) w w3 := hs.2.1.trans hQ.ky fun k hk => .inl (hs.2.2 k hk)
    have hsub : ∀ k, fq (.slice (some ⟨lb, 0, none⟩) (n + 1) cap) (n + 1) E2 k → fq (.slice (some ⟨lb, 0, none⟩) (n + 1) cap) (n + 1) E k := fun k hk => hs.2.2 k (hQ.sub k hk)
    have hbx3 : w3.rowIs b 54 5 F := hbx.of_block (hk23.block b hbx.lt fun hf => hb b hf rfl)
    refine (qpop_any hQ.q hbx3 (fun k hk => hb k (hsub k hk)) hn).mono ?_
    rintro e w' ⟨rfl, S', r1, r2, r3, r4⟩
    refine ⟨by rw [hlast], S', E2, r1, hH2, ?_, r2, ?_, fun k hk => hsub k (r4 k hk)⟩
    · rw [← hlast, ← lisE_succ]
      exact hQ.perm.trans (lisE_sw E (by omega) (by omega))
    · refine Ky.trans (F := fun k => fq (.slice (some ⟨lb, 0, none⟩) (n + 1) cap) (n + 1) E k ∨ k = b) (hk23.less fun k _ hk => .inl hk) r3 fun k hk => ?_
      rcases hk with hk | hk
      · exact .inl (.inl (hsub k hk))
      · exact .inl (.inr hk)
  have i1 : ((n + 1 : Nat) : Int) - 1 = (n : Int) := by omega
  clear h hH hbx hb
  go_enter Try.func55, Try.ntmps55
  go_wp2_with (go_at_call 93; refine (len_any _ _ _ _).mono ?_; rintro _ _ ⟨rfl, rfl⟩)
  refine (unhide HSW).mono ?_
  rintro _ w2 ⟨rfl, hs⟩
  have HD := hide (unhide HDN w2 hs)
  have HS := hide hs
  clear hs
  go_wp2_with fail
  refine (unhide HD).mono ?_
  rintro _ w3 ⟨bb, E2, rfl, hQ, hH2, hE⟩
  obtain ⟨mp, hP⟩ := unhide HPO w2 w3 E2 (unhide HS) hQ hH2 hE
  have HP := hide hP
  clear hP hQ hH2 hE
  go_wp2_with fail
  refine (unhide HP).mono ?_
  rintro e w4 hR
  have he := hR.1
  subst he
  have HR := hide hR
  clear hR
  go_wp2
  go_ret
  exact unhide HR
end Go.Proofs.Ytgmfbjehdcdioaa
