import Derived.Test.YtmgnndbcbalafaaMdC
set_option linter.unusedSimpArgs false
set_option linter.unusedVariables false
namespace Go.Proofs.Ytmgnndbcbalafaa
open Go.RowKit Go.Sort

def lenAt (w : World) (b : Nat) : Nat := match w.cell? ⟨b, 3, none⟩ with | some (.slice _ n _) => n | _ => 0
/-- A sketch that may have new memory since w0. -/
def Now (w0 w : World) (F : Nat → Prop) (b c tot sl : Nat) (S : Value) (Ls : List Value) (lv : Nat → List Int) : Prop :=
  Mid w b c tot sl S Ls lv ∧ Ky F w0 w ∧ ∀ k, foot b S Ls k → F k ∨ w0.heap.size ≤ k
theorem Now.start {w : World} {b c tot sl : Nat} {S : Value} {Ls : List Value} {lv : Nat → List Int} (h : Mid w b c tot sl S Ls lv) : Now w w (foot b S Ls) b c tot sl S Ls lv := ⟨h, Ky.refl _ _, fun k hk => .inl hk⟩
theorem Now.step {w0 w w1 : World} {F : Nat → Prop} {b c tot sl c' tot' sl' : Nat} {S S' : Value} {Ls Ls' : List Value} {lv lv' : Nat → List Int} (h : Now w0 w F b c tot sl S Ls lv) (k : Now w w1 (foot b S Ls) b c' tot' sl' S' Ls' lv') : Now w0 w1 F b c' tot' sl' S' Ls' lv' :=
  ⟨k.1, h.2.1.trans k.2.1 h.2.2, fun i hi => by
    rcases k.2.2 i hi with g | g
    · exact h.2.2 i g
    · exact .inr (Nat.le_trans h.2.1.size g)⟩
theorem Now.below {w0 w w1 : World} {F : Nat → Prop} {b c tot sl : Nat} {S : Value} {Ls : List Value} {lv : Nat → List Int} (h : Now w0 w F b c tot sl S Ls lv) (hb : Below w.heap.size w w1) : Now w0 w1 F b c tot sl S Ls lv :=
  h.step ⟨h.1.later hb, Ky.of_below hb, fun k hk => .inl hk⟩
theorem foot_push {b : Nat} {S S' : Value} {Ls : List Value} {w : World} (hS : S'.ownBlock = S.ownBlock ∨ S'.ownBlock = some w.heap.size) : ∀ k, foot b S' (Ls ++ [.slice none 0 0]) k → foot b S Ls k ∨ w.heap.size ≤ k := by
  rintro k (rfl | hk | ⟨s, hs, hk⟩)
  · exact .inl (.inl rfl)
  · rcases hS with e | e
    · exact .inl (.inr (.inl (by rw [← e]; exact hk)))
    · rw [e] at hk; cases hk; exact .inr (Nat.le_refl _)
  · rcases List.mem_append.1 hs with h | h
    · exact .inl (.inr (.inr ⟨s, h, hk⟩))
    · simp at h; subst h; cases hk
theorem foot_level {b i : Nat} {S s s' : Value} {Ls : List Value} {w : World} (hs : Ls[i]? = some s) (hb : s'.ownBlock = s.ownBlock ∨ ∃ k, s'.ownBlock = some k ∧ w.heap.size ≤ k) : ∀ k, foot b S (Ls.set i s') k → foot b S Ls k ∨ w.heap.size ≤ k := by
  rintro k (rfl | hk | ⟨t, ht, hk⟩)
  · exact .inl (.inl rfl)
  · exact .inl (.inr (.inl hk))
  · rcases List.mem_or_eq_of_mem_set ht with h | h
    · exact .inl (.inr (.inr ⟨t, h, hk⟩))
    · subst h
      rcases hb with e | ⟨q, e, hq⟩
      · exact .inl (.inr (.inr ⟨s, List.mem_of_getElem? hs, by rw [← e]; exact hk⟩))
      · rw [e] at hk; cases hk; exact .inr hq

theorem Mid.app {w w5 : World} {b c tot sl : Nat} {S v5 : Value} {Ls : List Value} {lv : Nat → List Int} {o : Obj} (h : Mid w b c tot sl S Ls lv) (ho : w5.ownsRow 0 23 1 v5 (Ls.length + 1) (Ls ++ [.slice none 0 0])) (hg : (w.alloc o).grownBy w5 S.ownBlock)
    (hat : v5.ownBlock = S.ownBlock ∨ v5.ownBlock = some (w.alloc o).heap.size) :
    ∃ g cap, v5 = .slice (some ⟨g, 0, none⟩) (Ls.length + 1) cap ∧ w5.cell? ⟨b, 3, none⟩ = some S ∧ w5.frozen? ⟨b, 3, none⟩ = false ∧ Hid (Now w (w5.setCell ⟨b, 3, none⟩ v5) (foot b S Ls) b c tot sl v5 (Ls ++ [.slice none 0 0]) lv) := by
  have ha : Below w.heap.size w (w.alloc o) := below_alloc (Below.refl _ _) o
  have h1 := h.later ha
  obtain ⟨g, cap, e⟩ : ∃ g cap, v5 = .slice (some ⟨g, 0, none⟩) (Ls.length + 1) cap := by
    rcases ho.2 with ⟨_, h0⟩ | ⟨g, cap, cur, he, _⟩
    · omega
    · exact ⟨g, cap, he⟩
  have hb := rowIs_grown h1.box hg h1.boxS
  have hp := h1.push e ho hg
  refine ⟨g, cap, e, hb.cell (i := 3) (by omega), hb.frozen _, ?_⟩
  refine (Now.start h).step ⟨hp.1, (Ky.of_below ha).trans hp.2 fun i hi => .inl hi, fun k hk => ?_⟩
  rcases foot_push hat k hk with q | q
  · exact .inl q
  · exact .inr (by have := ha.size; omega)

end Go.Proofs.Ytmgnndbcbalafaa
