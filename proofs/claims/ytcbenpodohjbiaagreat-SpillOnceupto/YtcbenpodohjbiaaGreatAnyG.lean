import Derived.Test.YtcbenpodohjbiaaGreatExA
import Derived.OrdersHeld
import Derived.Deep.RegionHeld3
set_option linter.unusedSimpArgs false
set_option linter.unusedVariables false
namespace Go.Proofs.YtcbenpodohjbiaaGreat
open Go.RowKit Go.Sort

/-! Loads taken first in a region that overwrites, at its end, what they read: the condition is asked only as long as operation k has not come up. -/
section
variable {P : Program} {ops : Array Oper} {Q : Exit → Act → World → Prop} {md : Region.Mode} {S : World → Prop} {k : Nat}

def anyG (P : Program) (md : Region.Mode) (ops : Array Oper) (Q : Exit → Act → World → Prop) (S : World → Prop) (k : Nat) : Nat → Array Bool → Act → World → Prop
  | 0, L, a, w => Region.ready md ops L = [] ∧ Q .normal a w
  | f + 1, L, a, w => (Region.ready md ops L = [] → Q .normal a w) ∧ ∀ i ∈ Region.ready md ops L, wpOp P ops Q i (fun a' w' => ((L.setIfInBounds i true).getD k true = false → S w') ∧ anyG P md ops Q S k f (L.setIfInBounds i true) a' w') a w

theorem any_of_G : ∀ (f : Nat) (L : Array Bool) (a : Act) (w : World), anyG P md ops Q S k f L a w → wpAny P md ops Q f L a w
  | 0, _, _, _, h => h
  | f + 1, _, _, _, h => ⟨h.1, fun i hi => wpOp_mono (fun a' w' h' => any_of_G f _ a' w' h'.2) (h.2 i hi)⟩

/-- None of K can come up ahead of i. -/
def waits (md : Region.Mode) (ops : Array Oper) (i : Nat) (K : List Nat) : Bool :=
  K.all fun c => match ops[c]? with
    | some o => o.after.any fun e => Region.binds md e && (e.on == i || K.contains e.on)
    | none => true

theorem not_ready {i j : Nat} {K : List Nat} {L : Array Bool} (hw : waits md ops i K = true) (hL : ∀ c ∈ K, L.getD c true = false) (hi : i ∈ Region.ready md ops L) (hj : j ∈ Region.ready md ops L) : j ∉ K := by
  intro hjK
  have un : ∀ c, L.getD c true = false → L.getD c false = true → False := by
    intro c h0 h1
    rcases Nat.lt_or_ge c L.size with h' | h'
    · simp [h'] at h0 h1; rw [h0] at h1; cases h1
    · simp [Array.getElem?_eq_none h'] at h1
  obtain ⟨_, o, ho, hall⟩ := mem_ready.1 hj
  have h1 := List.all_eq_true.1 hw j hjK
  simp only [ho] at h1
  obtain ⟨e, he, hb⟩ : ∃ e, e ∈ o.after ∧ (Region.binds md e && (e.on == i || K.contains e.on)) = true := by
    obtain ⟨n, hn, hb⟩ := Array.any_eq_true.1 h1
    exact ⟨_, Array.getElem_mem hn, hb⟩
  simp only [Bool.and_eq_true, Bool.or_eq_true, beq_iff_eq, List.contains_iff_mem] at hb
  have h2 := hall e he hb.1
  rcases hb.2 with h3 | h3
  · rw [h3] at h2
    exact un _ (mem_ready.1 hi).1 h2
  · exact un _ (hL _ h3) h2

theorem anyG_first {i : Nat} {oi : Oper} {v : Value} {K : List Nat} (hi : ops[i]? = some oi) (hsel : ∀ (j : Nat) (o : Oper) cs b, ops[j]? = some o → o.op ≠ .select cs b)
    (hQ : ∀ c a w, Q (.panic c) (a.put oi.dst v) w → Q (.panic c) a w) (hk : k ∈ K) (hiK : i ∉ K) (hw : waits md ops i K = true) :
    ∀ (f : Nat) (L : Array Bool) (a : Act) (w : World),
      (∀ j oj, ops[j]? = some oj → j ≠ i → L.getD j true = false → (∀ e ∈ oj.after, Region.binds md e = true → e.on ≠ i) → oi.apart ops oj = true) →
      (∀ c ∈ K, L.getD c true = false) → i ∈ Region.ready md ops L → YieldsIf P ops S oi v a → S w →
      anyG P md ops Q S k f (L.setIfInBounds i true) (a.put oi.dst v) w → anyG P md ops Q S k (f + 1) L a w := by
  intro f
  induction f with
  | zero =>
    intro L a w _ _ hr hy hS H
    refine ⟨fun h => (by rw [h] at hr; cases hr), fun j hj => ?_⟩
    by_cases hji : j = i
    · subst hji; exact hy.wpOp hi hS ⟨fun _ => hS, H⟩
    · have := ready_mono hj hji
      rw [H.1] at this
      cases this
  | succ f ih =>
    intro L a w hfree hL hr hy hS H
    refine ⟨fun h => (by rw [h] at hr; cases hr), fun j hj => ?_⟩
    by_cases hji : j = i
    · subst hji; exact hy.wpOp hi hS ⟨fun _ => hS, H⟩
    · have hjK := not_ready hw hL hr hj
      have h1 := H.2 j (ready_mono hj hji)
      obtain ⟨hjun, oj, hoj, hall⟩ := mem_ready.1 hj
      have hnot : ∀ e ∈ oj.after, Region.binds md e = true → e.on ≠ i := fun e he hb heq => by
        have h1 := hall e he hb
        have h0 := (mem_ready.1 hr).1
        rw [heq] at h1
        rcases Nat.lt_or_ge i L.size with h' | h'
        · simp [h'] at h0 h1; rw [h0] at h1; cases h1
        · simp [Array.getElem?_eq_none h'] at h1
      have h2 := wpOp_putIf hoj (hfree j oj hoj hji hjun hnot) (fun cs b => hsel i oi cs b hi) (fun cs b => hsel j oj cs b hoj) hQ hy h1
      have hfree' : ∀ c oc, ops[c]? = some oc → c ≠ i → (L.setIfInBounds j true).getD c true = false →
          (∀ e ∈ oc.after, Region.binds md e = true → e.on ≠ i) → oi.apart ops oc = true := fun c oc hc hci hun hno => by
        refine hfree c oc hc hci ?_ hno
        by_cases hjc : j = c
        · subst hjc; exact hjun
        · rw [getD_set_ne true hjc] at hun; exact hun
      have hL' : ∀ c ∈ K, (L.setIfInBounds j true).getD c true = false := fun c hc => by
        have hne : j ≠ c := fun h => hjK (by rw [h]; exact hc)
        rw [getD_set_ne true hne]
        exact hL c hc
      refine wpOp_mono (fun a' w' h3 => ?_) h2
      have hjk : j ≠ k := fun h => hjK (by rw [h]; exact hk)
      have hik : i ≠ k := fun h => hiK (by rw [h]; exact hk)
      have hS' : S w' := h3.2.1 (by rw [getD_set_ne true hjk, getD_set_ne true hik]; exact hL k hk)
      refine ⟨fun _ => hS', ih (L.setIfInBounds j true) a' w' hfree' hL' (ready_mono hr (Ne.symm hji)) h3.1 hS' ?_⟩
      rw [Array.setIfInBounds_comm _ _ hji]
      exact h3.2.2

/-- Take i first. -/
theorem anyG_take {i : Nat} {oi : Oper} {v : Value} {f : Nat} {L : Array Bool} {a : Act} {w : World} (K : List Nat) (hi : ops[i]? = some oi)
    (hs : Region.noSelect ops = true) (hf : Region.free md ops L i = true) (hr : (Region.ready md ops L).contains i = true)
    (hK : (K.contains k && !K.contains i && waits md ops i K && K.all fun c => !L.getD c true) = true)
    (hQ : ∀ c a w, Q (.panic c) (a.put oi.dst v) w → Q (.panic c) a w) (hy : YieldsIf P ops S oi v a) (hS : S w)
    (h : anyG P md ops Q S k f (L.setIfInBounds i true) (a.put oi.dst v) w) : anyG P md ops Q S k (f + 1) L a w := by
  simp only [Bool.and_eq_true, List.contains_iff_mem, Bool.not_eq_true', List.all_eq_true] at hK
  refine anyG_first (K := K) hi (Region.noSelect_spec hs) hQ hK.1.1.1 (fun hm => ?_) hK.1.2 f L a w (Region.free_spec hi hf) hK.2 (by simpa using hr) hy hS h
  have := hK.1.1.2
  rw [List.contains_iff_mem.2 hm] at this
  cases this

/-- One alone can come up. -/
theorem anyG_one {i : Nat} {f : Nat} {L : Array Bool} {a : Act} {w : World} (hr : Region.ready md ops L = [i])
    (h : wpOp P ops Q i (fun a' w' => ((L.setIfInBounds i true).getD k true = false → S w') ∧ anyG P md ops Q S k f (L.setIfInBounds i true) a' w') a w) : anyG P md ops Q S k (f + 1) L a w :=
  ⟨fun h0 => (by rw [hr] at h0; cases h0), fun j hj => by rw [hr, List.mem_singleton] at hj; subst hj; exact h⟩

/-- An operation that is wanted; what follows is a letter. -/
theorem wpOp_at {i : Nat} {o : Oper} {a : Act} {w : World} {K : Act → World → Prop} (hi : ops[i]? = some o) (hw : Region.wanted o (yielded ops a.tmps) = true)
    (h : ∀ K' : Act → World → Prop, Hid (∀ a w, K a w → K' a w) → o.wp P a w K' Q) : wpOp P ops Q i K a w := by
  unfold wpOp
  simp only [hi, hw, if_true]
  exact .inl (h K (hide fun _ _ h => h))

theorem anyG_done {L : Array Bool} {a : Act} {w : World} (hr : Region.ready md ops L = []) (h : Q .normal a w) : ∀ f, anyG P md ops Q S k f L a w
  | 0 => ⟨hr, h⟩
  | _ + 1 => ⟨fun _ => h, by rw [hr]; simp⟩

theorem wp_region_G {id : Nat} {a : Act} {w : World} (hm : P.follows .mixedOrders = true)
    (h : anyG P .any ops Q S k ops.size (Array.replicate ops.size false) a { w with drawn := w.drawn + 1 }) : (Code.region id ops true).wp P Q a w :=
  wp_region_any hm (any_of_G _ _ _ _ h)
theorem anyG_many {f : Nat} {L : Array Bool} {a : Act} {w : World} (l : List Nat) (hr : Region.ready md ops L = l) (hl : l ≠ [])
    (h : ∀ i ∈ l, wpOp P ops Q i (fun a' w' => ((L.setIfInBounds i true).getD k true = false → S w') ∧ anyG P md ops Q S k f (L.setIfInBounds i true) a' w') a w) : anyG P md ops Q S k (f + 1) L a w :=
  ⟨fun h0 => absurd (hr.symm.trans h0) hl, fun j hj => h j (by rw [← hr]; exact hj)⟩
theorem drop_at {α : Type} {l : Array α} {i : Nat} {o : α} {r : List α} (h : l.toList.drop i = o :: r) : l[i]? = some o := by
  have h1 : (l.toList.drop i)[0]? = some o := by rw [h]; rfl
  rw [List.getElem?_drop] at h1
  simpa using h1
theorem wpOp_lit {i : Nat} {o : Oper} {r : List Oper} {a : Act} {w : World} {K : Act → World → Prop} (hi : ops.toList.drop i = o :: r) (hw : Region.wanted o (yielded ops a.tmps) = true)
    (h : ∀ K' : Act → World → Prop, Hid (∀ a w, K a w → K' a w) → o.wp P a w K' Q) : wpOp P ops Q i K a w := wpOp_at (drop_at hi) hw h
theorem anyG_takel {i : Nat} {oi : Oper} {r : List Oper} {v : Value} {f : Nat} {L : Array Bool} {a : Act} {w : World} (K : List Nat) (hi : ops.toList.drop i = oi :: r)
    (hs : Region.noSelect ops = true) (hf : Region.free md ops L i = true) (hr : (Region.ready md ops L).contains i = true)
    (hK : (K.contains k && !K.contains i && waits md ops i K && K.all fun c => !L.getD c true) = true)
    (hQ : ∀ c a w, Q (.panic c) (a.put oi.dst v) w → Q (.panic c) a w) (hy : YieldsIf P ops S oi v a) (hS : S w)
    (h : anyG P md ops Q S k f (L.setIfInBounds i true) (a.put oi.dst v) w) : anyG P md ops Q S k (f + 1) L a w := anyG_take K (drop_at hi) hs hf hr hK hQ hy hS h
end
end Go.Proofs.YtcbenpodohjbiaaGreat
