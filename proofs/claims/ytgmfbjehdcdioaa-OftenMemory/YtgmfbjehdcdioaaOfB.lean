import Derived.Test.YtgmfbjehdcdioaaOfA
set_option linter.unusedSimpArgs false
set_option linter.unusedVariables false
set_option linter.unusedSectionVars false
namespace Go.Proofs.Ytgmfbjehdcdioaa

/-! A heap by its keys: h i is the key at place i, n how many there are. -/
def Heap (n : Nat) (h : Nat → Nat) : Prop := ∀ c, 0 < c → c < n → h ((c - 1) / 2) ≤ h c
/-- A heap but for what lies below place b. -/
def HeapB (n : Nat) (h : Nat → Nat) (b : Nat) : Prop :=
  (∀ c, 0 < c → c < n → (c - 1) / 2 ≠ b → h ((c - 1) / 2) ≤ h c) ∧ ∀ c, 0 < c → c < n → (c - 1) / 2 = b → 0 < b → h ((b - 1) / 2) ≤ h c
/-- A heap but for what lies above place b. -/
def HeapU (n : Nat) (h : Nat → Nat) (b : Nat) : Prop :=
  (∀ c, 0 < c → c < n → c ≠ b → h ((c - 1) / 2) ≤ h c) ∧ ∀ c, 0 < c → c < n → (c - 1) / 2 = b → 0 < b → h ((b - 1) / 2) ≤ h c
/-- Two places change their keys. -/
def sw {β : Type} (h : Nat → β) (i j : Nat) : Nat → β := fun k => if k = i then h j else if k = j then h i else h k
theorem sw_l {β : Type} (h : Nat → β) (i j : Nat) : sw h i j i = h j := by simp [sw]
theorem sw_r {β : Type} (h : Nat → β) (i j : Nat) : sw h i j j = h i := by
  unfold sw; by_cases e : j = i
  · subst e; simp
  · simp [e]
theorem sw_o {β : Type} {h : Nat → β} {i j k : Nat} (h1 : k ≠ i) (h2 : k ≠ j) : sw h i j k = h k := by simp [sw, h1, h2]

theorem Heap.least {n : Nat} {h : Nat → Nat} (hp : Heap n h) : ∀ c, c < n → h 0 ≤ h c := by
  intro c
  induction c using Nat.strongRecOn with
  | _ c ih =>
    intro hc
    by_cases e : c = 0
    · subst e; exact Nat.le_refl _
    · have h1 := ih ((c - 1) / 2) (by omega) (by omega)
      have h2 := hp c (by omega) hc
      omega
theorem HeapB.none {n : Nat} {h : Nat → Nat} {i : Nat} (hb : HeapB n h i) (hl : n ≤ 2 * i + 1) : Heap n h := fun c h0 hc => hb.1 c h0 hc (by omega)
theorem HeapB.done {n : Nat} {h : Nat → Nat} {i j : Nat} (hb : HeapB n h i) (hj : ∀ c, 0 < c → c < n → (c - 1) / 2 = i → h j ≤ h c) (hij : h i ≤ h j) : Heap n h := fun c h0 hc => by
  by_cases e : (c - 1) / 2 = i
  · have := hj c h0 hc e; rw [e]; omega
  · exact hb.1 c h0 hc e
theorem HeapB.step {n : Nat} {h : Nat → Nat} {i j : Nat} (hb : HeapB n h i) (hjn : j < n) (hj0 : 0 < j) (hji : (j - 1) / 2 = i) (hj : ∀ c, 0 < c → c < n → (c - 1) / 2 = i → h j ≤ h c) (hlt : h j < h i) : HeapB n (sw h i j) j := by
  have hij : i < j := by omega
  refine ⟨fun c h0 hc hn => ?_, fun c h0 hc hp _ => ?_⟩
  · by_cases e1 : (c - 1) / 2 = i
    · rw [e1, sw_l]
      by_cases e2 : c = j
      · subst e2; rw [sw_r]; omega
      · rw [sw_o (by omega) e2]; exact hj c h0 hc e1
    · by_cases e2 : c = i
      · subst e2
        rw [sw_o (by omega) (by omega), sw_l]
        exact hb.2 j hj0 hjn hji h0
      · by_cases e3 : c = j
        · subst e3; omega
        · rw [sw_o e1 hn, sw_o e2 e3]; exact hb.1 c h0 hc e1
  · rw [hji, sw_l, sw_o (by omega) (by omega)]
    have := hb.1 c h0 hc (by omega)
    rw [hp] at this; exact this
theorem HeapU.done {n : Nat} {h : Nat → Nat} {j : Nat} (hu : HeapU n h j) (hd : j = 0 ∨ h ((j - 1) / 2) ≤ h j) : Heap n h := fun c h0 hc => by
  by_cases e : c = j
  · subst e
    rcases hd with hd | hd
    · omega
    · exact hd
  · exact hu.1 c h0 hc e
theorem HeapU.step {n : Nat} {h : Nat → Nat} {i j : Nat} (hu : HeapU n h j) (hjn : j < n) (hj0 : 0 < j) (hji : (j - 1) / 2 = i) (hlt : h j < h i) : HeapU n (sw h i j) i := by
  have hij : i < j := by omega
  refine ⟨fun c h0 hc hn => ?_, fun c h0 hc hp hi0 => ?_⟩
  · by_cases e1 : c = j
    · subst e1; rw [hji, sw_l, sw_r]; omega
    · rw [sw_o hn e1]
      by_cases e2 : (c - 1) / 2 = j
      · rw [e2, sw_r]
        have := hu.2 c h0 hc e2 hj0
        rw [hji] at this; exact this
      · by_cases e3 : (c - 1) / 2 = i
        · rw [e3, sw_l]
          have := hu.1 c h0 hc e1
          rw [e3] at this; omega
        · rw [sw_o e3 e2]; exact hu.1 c h0 hc e1
  · have h1 := hu.1 i hi0 (by omega) (by omega)
    rw [sw_o (by omega) (by omega)]
    by_cases e1 : c = j
    · subst e1; rw [sw_r]; exact h1
    · rw [sw_o (by omega) e1]
      have := hu.1 c h0 hc e1
      rw [hp] at this; omega
/-- A key has grown. -/
theorem Heap.grown {n : Nat} {h h' : Nat → Nat} {i : Nat} (hp : Heap n h) (he : ∀ k, k ≠ i → h' k = h k) (hg : h i ≤ h' i) : HeapB n h' i := by
  refine ⟨fun c h0 hc hn => ?_, fun c h0 hc hpc hi0 => ?_⟩
  · have := hp c h0 hc
    rw [he _ hn]
    by_cases e : c = i
    · subst e; omega
    · rw [he c e]; exact this
  · have h1 := hp c h0 hc
    rw [hpc] at h1
    rw [he _ (by omega), he c (by omega)]
    by_cases hin : i < n
    · have := hp i hi0 hin; omega
    · omega
/-- One more, behind. -/
theorem Heap.more {n : Nat} {h h' : Nat → Nat} (hp : Heap n h) (he : ∀ k, k < n → h' k = h k) : HeapU (n + 1) h' n := by
  refine ⟨fun c h0 hc hn => ?_, fun c h0 hc hpc hn0 => by omega⟩
  have := hp c h0 (by omega)
  rw [he _ (by omega), he c (by omega)]; exact this
/-- The last one stands ahead of all. -/
theorem Heap.lastFirst {n : Nat} {h : Nat → Nat} (hp : Heap (n + 1) h) : HeapB n (sw h 0 n) 0 := by
  refine ⟨fun c h0 hc hn => ?_, fun c h0 hc hpc h => by omega⟩
  rw [sw_o hn (by omega), sw_o (by omega) (by omega)]
  exact hp c h0 (by omega)
end Go.Proofs.Ytgmfbjehdcdioaa
