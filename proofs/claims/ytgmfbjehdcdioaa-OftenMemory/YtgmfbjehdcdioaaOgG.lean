import Derived.Test.YtgmfbjehdcdioaaOgF
import Derived.Test.YtgmfbjehdcdioaaOfZ
set_option linter.unusedSimpArgs false
set_option linter.unusedVariables false
set_option maxRecDepth 100000
namespace Go.Proofs.Ytgmfbjehdcdioaa
open Go.RowKit Go.Sort

def tolds (E : Nat → Nat × Cn) (n : Nat) : List Cn := (lisE E n).map (·.2)
theorem tolds_succ (E : Nat → Nat × Cn) (n : Nat) : tolds E (n + 1) = tolds E n ++ [(E n).2] := by unfold tolds; rw [lisE_succ, List.map_append]; rfl
theorem tolds_len (E : Nat → Nat × Cn) (n : Nat) : (tolds E n).length = n := by unfold tolds; rw [List.length_map, lisE_len]
/-- All, under way. -/
structure AlS (w wr : World) (S : Value) (fs : List Cn) : Prop where
  own : OwnF wr w.heap.size S fs
  bel : Below w.heap.size w wr
theorem AlS.start (w : World) : AlS w w (.slice none 0 0) [] := ⟨⟨rfl, .inl ⟨rfl, rfl⟩⟩, Below.refl _ _⟩
/-- What All answers. -/
structure AlA (w w' : World) (S : Value) (n : Nat) (E : Nat → Nat × Cn) (ys : List Cn) : Prop where
  own : OwnF w' w.heap.size S ys
  bel : Below w.heap.size w w'
  perm : ys.Perm (tolds E n)
  rises : ys.Pairwise fun x y => ordC x y ≤ 0

set_option maxHeartbeats 4000000 in
theorem all_any {w : World} {b k tot fl mb n : Nat} {S : Value} {E : Nat → Nat × Cn} {L : List (Vk × Nat)} (h : Of w b k tot fl mb S n E L) (hn : n ≤ 1024) :
    Calls Try.prog 11 #[.pointer (some ⟨b, 0, none⟩)] w fun e w' => ∃ S' ys, e = .returned S' ∧ AlA w w' S' n E ys := by
  obtain ⟨ao, co, hSo⟩ := h.qu.form
  have c4 := h.facts.2.2.2.2.1
  rw [hSo] at c4
  have HO := hide h
  have HST := hide (AlS.start w)
  clear h
  go_enter Try.func11, Try.ntmps11
  go_wp2_with fail
  go_loopw [3, 11] (fun s3 s11 wr => ∃ (i : Nat) (T : Value), s3 = T ∧ s11 = .int .i64 (i : Int) ∧ i ≤ n ∧ Hid (AlS w wr T (tolds E i))) (fun _ s _ => n - (intOf s).toNat)
  case atStart => exact ⟨0, _, rfl, rfl, Nat.zero_le _, HST⟩
  case round =>
    obtain ⟨i, T, rfl, rfl, hin, HT⟩ := hrel
    clear c4 HST
    obtain ⟨aT, cT, hT⟩ := (unhide HT).own.slice
    rw [tolds_len] at hT
    subst hT
    by_cases hi : i < n
    · have hB := (unhide HT).bel
      obtain ⟨lb, cap, hSl⟩ := (unhide HO).qu.slice (by omega)
      have hO1 := (unhide HO).later hB
      have d0 := (hO1.qu.at hSl hi).1
      rw [hSo] at hSl
      cases hSl
      obtain ⟨u0, u1, u2, u3, u4⟩ := (unhide HO).cells hB hi
      have HAP : Hid (∀ X w1 a5 k5, Below wr.heap.size wr X → w1.ownsRow w.heap.size 47 5 (.slice a5 (i + 1) k5) (i + 1) ((tolds E i ++ [(E i).2]).flatMap c5) → X.grownBy w1 (Value.slice aT i cT).ownBlock → AlS w w1 (.slice a5 (i + 1) k5) (tolds E (i + 1))) := fun X w1 a5 k5 hX h1 h2 => by
        refine ⟨?_, ?_⟩
        · unfold OwnF
          rw [tolds_succ, List.length_append, tolds_len]; exact h1
        · have hb := below_step hB hX
          refine ⟨h2.os.trans hb.os, h2.tape.trans hb.tape, h2.output.trans hb.output, Nat.le_trans hb.size h2.size, fun q hq => ?_⟩
          rw [h2.block q (Nat.lt_of_lt_of_le hq hb.size) fun e => by have := (World.ownsRow.lt (unhide HT).own q e.symm).1; omega]
          exact hb.block q hq
      have HOW : Hid (∀ W, Below wr.heap.size wr W → W.ownsRow w.heap.size 47 5 (.slice aT i cT) i ((tolds E i).flatMap c5)) := fun W hW => by
        have := own_later (unhide HT).own hW
        rw [tolds_len] at this
        exact this
      have HSZ : Hid (w.heap.size ≤ wr.heap.size) := hB.size
      have HTL : Hid (i = (tolds E i).length) := (tolds_len E i).symm
      obtain ⟨p, hp⟩ : ∃ p, (E i).1 = p := ⟨_, rfl⟩
      obtain ⟨y, hy⟩ : ∃ y, (E i).2 = y := ⟨_, rfl⟩
      rw [hp, hy] at u0 u1 u2 u3 u4
      rw [hp] at d0
      rw [hy] at HAP
      have i3 : (i : Int) < (n : Int) := by omega
      clear hO1 hB hp hy
      go_upto_region 5 with fail
      go_region_law (refine step_app_found rfl _ _ rfl w.heap.size (.slice aT i cT) i (tolds E i) (unhide HTL) (by simp [Act.eval, Act.put]) (unhide HOW _ (below_alloc (Below.refl _ _) _).drew) wr.heap.size y (by simp [Act.eval, Act.put]) (by simp [go_sem]) (by simp [go_sem]) (by simp [go_sem]) (by simp [go_sem]) (by simp [go_sem]) (by omega) (by have := unhide HSZ; simp; omega) ?_; intro a5 k5 w1 ho5 hg5 hat5; have HN := hide (unhide HAP _ w1 a5 k5 (below_alloc (Below.refl _ _) _).drew ho5 hg5); clear ho5 hg5 hat5)
      all_goals
        go_wp2
        go_roundw
        case rel => exact ⟨i + 1, _, rfl, by go_num, by omega, HN⟩
        case measure => simp [intOf]; omega
    · obtain rfl : i = n := by omega
      have HSO : Hid (Calls Try.prog 29 #[.slice aT i cT, .func (.func 30) #[] #[]] wr fun e w' => e = .returned (.tuple #[]) ∧ ∃ ys, AlA w w' (.slice aT i cT) i E ys) := by
        refine (fsort_any w.heap.size (tolds E i) _ wr (by rw [tolds_len]; omega) (unhide HT).own).mono ?_
        rintro e w' ⟨rfl, ys, h1, h2, h3, h4⟩
        refine ⟨rfl, ys, h1, ?_, h3, h4⟩
        have hb := (unhide HT).bel
        refine ⟨h2.os.trans hb.os, h2.tape.trans hb.tape, h2.output.trans hb.output, Nat.le_trans hb.size h2.size, fun q hq => ?_⟩
        rw [h2.block q (Nat.lt_of_lt_of_le hq hb.size) fun e => by have := (World.ownsRow.lt (unhide HT).own q e.symm).1; omega]
        exact hb.block q hq
      go_wp2_with (go_at_call 29; refine (unhide HSO).mono ?_; rintro _ w2 ⟨rfl, ys, HA⟩; replace HA := hide HA)
      go_ret
      exact ⟨_, ys, rfl, unhide HA⟩
end Go.Proofs.Ytgmfbjehdcdioaa
