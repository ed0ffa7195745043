import Derived.Test.YtmgnndbcbalafaaMdG
set_option linter.unusedSimpArgs false
set_option linter.unusedVariables false
namespace Go.Proofs.Ytmgnndbcbalafaa
open Go.RowKit Go.Sort

theorem sg_get (f : Nat → Nat) {j : Nat} : ∀ N, j < N → f j ≤ sg f N
  | 0, h => by omega
  | N + 1, h => by
    by_cases e : j = N
    · subst e; simp only [sg]; omega
    · have := sg_get f (j := j) N (by omega); simp only [sg]; omega
theorem Good.level {c N : Nat} {lv : Nat → List Int} {h : Nat → Nat} {sl : Nat} {xs : List Int} (g : Good c N lv h sl xs) (j : Nat) : (lv j).length ≤ xs.length := by
  by_cases e : j < N
  · have h1 := sg_get (fun j => (lv j).length * 2 ^ j) N e
    rw [g.weight] at h1
    have h2 : (lv j).length * 1 ≤ (lv j).length * 2 ^ j := Nat.mul_le_mul_left _ Nat.one_le_two_pow
    omega
  · rw [(g.beyond j (by omega)).1]; exact Nat.zero_le _
theorem Good.bounds {c N : Nat} {lv : Nat → List Int} {h : Nat → Nat} {sl : Nat} {xs : List Int} (g : Good c N lv h sl xs) (hc : 2 ≤ c) (hx : xs.length ≤ 100000) : N ≤ 18 ∧ sl ≤ 1700000 := by
  have h1 := g.depth (by omega)
  have h2 := g.near (by omega)
  have h4 : xs.length / c ≤ xs.length := Nat.div_le_self _ _
  have h3 : bitsN (xs.length / c) ≤ 17 := bits_le 17 _ (by omega)
  refine ⟨by omega, ?_⟩
  have h5 : bitsN (xs.length / c) * xs.length / c ≤ bitsN (xs.length / c) * xs.length := Nat.div_le_self _ _
  have h6 : bitsN (xs.length / c) * xs.length ≤ 17 * 100000 := Nat.mul_le_mul h3 hx
  omega

/-- A sketch of what has come, thinned so far. -/
def Sk (w0 w : World) (F : Nat → Prop) (b c : Nat) (S : Value) (Ls : List Value) (xs : List Int) (k : Nat) : Prop :=
  ∃ lv h sl, Now w0 w F b c xs.length sl S Ls lv ∧ Good c Ls.length lv h sl xs ∧ ∀ j, j < k → (lv j).length < c
theorem up_eta {α : Type} (f : Nat → α) (i : Nat) : up f i (f i) = f := by funext j; unfold up; split <;> simp_all

set_option maxHeartbeats 1000000 in
set_option maxRecDepth 100000 in
/-- thin. -/
theorem thin_any (w : World) (b c sl : Nat) (S : Value) (Ls : List Value) (lv : Nat → List Int) (h : Nat → Nat) (xs : List Int) (hM : Mid w b c xs.length sl S Ls lv) (hG : Good c Ls.length lv h sl xs) (hc : c % 2 = 0) (hc2 : 2 ≤ c) (hc3 : c ≤ 1024) (hx : xs.length ≤ 100000) :
    Calls Try.prog 10 #[.pointer (some ⟨b, 0, none⟩)] w fun e w' => e = .returned (.tuple #[]) ∧ ∃ S' Ls', Sk w w' (foot b S Ls) b c S' Ls' xs Ls'.length := by
  have HST : Hid (Sk w w (foot b S Ls) b c S Ls xs 0) := ⟨lv, h, sl, Now.start hM, hG, fun j hj => by omega⟩
  clear hM hG
  go_enter Try.func10, Try.ntmps10
  go_wp2_with fail
  go_loopw [2] (fun s wr => ∃ (i : Nat) (S' : Value) (Ls' : List Value), s = .int .i64 (i : Int) ∧ i ≤ Ls'.length ∧ i ≤ 18 ∧ Hid (Sk w wr (foot b S Ls) b c S' Ls' xs i)) (fun s _ => (64 - (intOf s).toNat))
  case atStart => exact ⟨0, S, Ls, rfl, by omega, by omega, HST⟩
  case round =>
    obtain ⟨i, S', Ls', rfl, hi, hi8, HK⟩ := hrel
    obtain ⟨lv', h', sl', hN, hG, hS⟩ := unhide HK
    obtain ⟨lb, cap, rfl⟩ := hN.1.slice
    obtain ⟨c0, c1, c2, c3, f0, f1, f2, f3⟩ := hN.1.facts
    obtain ⟨hb1, hb2⟩ := hG.bounds hc2 hx
    have HN := hide hN
    have HG := hide hG
    have HS := hide hS
    by_cases hlt : i < Ls'.length
    · have i1 : (i : Int) < (Ls'.length : Int) := by omega
      obtain ⟨s, hs⟩ : ∃ s, Ls'[i]? = some s := ⟨_, List.getElem?_eq_getElem hlt⟩
      have c4 := own_cell hN.1.lst hs
      obtain ⟨a1, k1, rfl, _⟩ := num_of_own2 (hN.1.own i s hs)
      obtain ⟨zl, hzl⟩ : ∃ zl, (lv' i).length = zl := ⟨_, rfl⟩
      rw [hzl] at c4
      have HZL := hide hzl
      clear hN hG hS hs hzl f0 f1 f2 f3 c1 c2
      by_cases hcc : c ≤ zl
      · have i2 : (c : Int) ≤ (zl : Int) := by omega
        have HH : Hid (∀ W, Below wr.heap.size wr W → Calls Try.prog 18 #[.pointer (some ⟨b, 0, none⟩), .int .i64 i] W fun e w' => e = .returned (.tuple #[]) ∧ ∃ S2 Ls2, Sk w w' (foot b S Ls) b c S2 Ls2 xs (i + 1) ∧ i + 1 ≤ Ls2.length) := fun W hW => by
          have hN := unhide HN
          have hG := unhide HG
          have hz := unhide HZL
          refine (halve_any W b c xs.length sl' i _ Ls' lv' (hN.1.later hW) hlt (by omega) (by omega) (by omega) (by have h1 := hG.level i; have h2 := hG.level (i + 1); omega) (by omega)).mono ?_
          rintro e w' ⟨rfl, S2, Ls2, hL2, hN2⟩
          refine ⟨rfl, S2, Ls2, ⟨_, up h' i (h' i + 1), _, (hN.below hW).step hN2, ?_, ?_⟩, by omega⟩
          · rw [hL2]; exact hG.halve hc i hlt (by omega) (srt_ris _) (srt_perm _)
          · intro j hj
            rw [up_ne (by omega)]
            by_cases e : j = i
            · subst e; rw [up_same, odd_len]; omega
            · rw [up_ne e]; exact unhide HS j (by omega)
        go_upto_region 3 with fail
        go_region_law (fail)
        all_goals
          go_wp2_with (go_at_call 18; refine (unhide HH _ (Below.refl _ _).drew).mono ?_; rintro e w2 ⟨rfl, S2, Ls2, HK2, hl2⟩; replace HK2 := hide HK2)
          go_roundw
          case rel => exact ⟨i + 1, S2, Ls2, by go_num, hl2, by omega, HK2⟩
          case measure => simp [intOf]; omega
      · have i2 : ¬ (c : Int) ≤ (zl : Int) := by omega
        go_upto_region 3 with fail
        go_region_law (fail)
        all_goals
          go_wp2
          go_roundw
          case rel => exact ⟨i + 1, _, Ls', by go_num, by omega, by omega, ⟨lv', h', sl', (unhide HN).below (Below.refl _ _).drew, unhide HG, fun j hj => by
            by_cases e : j = i
            · subst e; have := unhide HZL; omega
            · exact unhide HS j (by omega)⟩⟩
          case measure => simp [intOf]; omega
    · have i1 : ¬ (i : Int) < (Ls'.length : Int) := by omega
      have hil : i = Ls'.length := by omega
      have HK' : Hid (Sk w wr (foot b S Ls) b c (.slice (some ⟨lb, 0, none⟩) Ls'.length cap) Ls' xs Ls'.length) := hide (by have h := unhide HK; rw [show i = Ls'.length from hil] at h; exact h)
      clear hil HK
      go_wp2
      go_end0
      exact ⟨rfl, _, Ls', unhide HK'⟩
end Go.Proofs.Ytmgnndbcbalafaa
