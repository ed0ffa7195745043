import Derived.Test.YtgmfbjehdcdioaaOfP
set_option linter.unusedSimpArgs false
set_option linter.unusedVariables false
set_option maxRecDepth 100000
namespace Go.Proofs.Ytgmfbjehdcdioaa
open Go.RowKit Go.Sort

theorem atK_in {L : List (Vk × Nat)} {x : Vk} {p : Nat} (hm : (x, p) ∈ L) (hu : ∀ q, (x, q) ∈ L → q = p) : ∃ j, atK L x = some (j, p) := by
  cases h : atK L x with
  | none => exact absurd rfl (atK_none h _ hm)
  | some jq =>
    obtain ⟨j, q⟩ := jq
    have := hu q (List.mem_of_getElem? (atK_some h))
    subst this
    exact ⟨j, rfl⟩
/-- Each value once. -/
def Once (E : Nat → Nat × Cn) (n : Nat) : Prop := ∀ i j, i < n → j < n → (E i).2.key = (E j).2.key → i = j
theorem once_nodup {E : Nat → Nat × Cn} {n : Nat} : Once E n ↔ ((lisE E n).map fun e => e.2.key).Nodup := by
  unfold lisE
  rw [List.map_map]
  constructor
  · intro h
    rw [List.nodup_iff_pairwise_ne]
    refine List.pairwise_map.2 (List.nodup_range.imp_of_mem fun {a b} ha hb hab e => hab (h a b (List.mem_range.1 ha) (List.mem_range.1 hb) e))
  · intro h i j hi hj e
    by_cases hij : i = j
    · exact hij
    · have h1 : ((List.range n).map ((fun e : Nat × Cn => e.2.key) ∘ E))[i]? = some (E i).2.key := by simp [hi]
      have h2 : ((List.range n).map ((fun e : Nat × Cn => e.2.key) ∘ E))[j]? = some (E j).2.key := by simp [hj]
      exact (List.getElem?_inj (by simpa using hi) h).1 (by rw [h1, h2, e])
theorem Of.top {w : World} {b k tot fl mb n : Nat} {S : Value} {E : Nat → Nat × Cn} {L : List (Vk × Nat)} (h : Of w b k tot fl mb S n E L) (hon : Once E n) {i : Nat} (hi : i < n) : ∃ j, atK L (E i).2.key = some (j, (E i).1) := by
  refine atK_in (h.same.mem_iff.2 (List.mem_map.2 ⟨E i, List.mem_map.2 ⟨i, List.mem_range.2 hi, rfl⟩, rfl⟩)) fun q hq => ?_
  obtain ⟨e, he, heq⟩ := List.mem_map.1 (h.same.mem_iff.1 hq)
  obtain ⟨i', hi', rfl⟩ := List.mem_map.1 he
  simp only [Prod.mk.injEq] at heq
  have := hon i' i (List.mem_range.1 hi') hi heq.1
  rw [← heq.2, this]

/-- The map has lost the first one's entry, and heap.Pop has taken it. -/
theorem Of.popped {w w1 w2 : World} {b k tot fl mb n j : Nat} {S S' : Value} {E E' : Nat → Nat × Cn} {L : List (Vk × Nat)} (h : Of w b k tot fl mb S (n + 1) E L) (hj : atK L (E 0).2.key = some (j, (E 0).1)) (hm : MapAt w1 mb (L.eraseIdx j)) (hk1 : Ky (fun q => q = mb) w w1)
    (hq : Qu w2 b S' n E') (hH : Heap n (keyE E')) (hp : (lisE E' n ++ [E 0]).Perm (lisE E (n + 1))) (hbx : w2.rowIs b 54 5 (fun j => if j = 4 then S' else box5 (.int .i64 k) (.int .i64 tot) (.int .i64 fl) (.map (some mb)) S j)) (hk2 : Ky (fun q => fq S (n + 1) E q ∨ q = b) w1 w2) (hs : ∀ q, fq S' n E' q → fq S (n + 1) E q) :
    Of w2 b k tot fl mb S' n E' (L.eraseIdx j) ∧ Ky (footO b mb S (n + 1) E) w w2 := by
  obtain ⟨n1, n2⟩ := h.mapne
  refine ⟨⟨hbx.congr fun i hi => ?_, hq, fun q hq' => h.ne q (hs q hq'), ?_, ?_, hH⟩, ?_⟩
  · match i, hi with
    | 0, _ => rfl
    | 1, _ => rfl
    | 2, _ => rfl
    | 3, _ => rfl
    | 4, _ => rfl
  · obtain ⟨es, clk, hh, he⟩ := hm
    exact ⟨es, clk, by rw [hk2.block mb (Array.getElem?_eq_some_iff.1 hh).1 (fun hf => by rcases hf with hf | hf; exact n1 hf; exact n2 hf)]; exact hh, he⟩
  · have hj' := atK_some hj
    obtain ⟨hjl, hje⟩ := List.getElem?_eq_some_iff.1 hj'
    have h1 : (L[j] :: L.eraseIdx j).Perm L := by
      rw [List.eraseIdx_eq_take_drop_succ]
      refine (List.perm_middle (a := L[j]) (l₁ := L.take j) (l₂ := L.drop (j + 1))).symm.trans ?_
      rw [List.getElem_cons_drop, List.take_append_drop]
    rw [hje] at h1
    have h2 := hp.map fun e : Nat × Cn => (e.2.key, e.1)
    rw [List.map_append] at h2
    have h3 : ((E 0).2.key, (E 0).1) :: L.eraseIdx j |>.Perm (((E 0).2.key, (E 0).1) :: entsE E' n) := by
      refine (h1.trans h.same).trans (h2.symm.trans ?_)
      exact List.perm_append_comm
    exact h3.cons_inv
  · refine (hk1.less fun q _ hq' => .inr (.inl hq')).trans hk2 fun q hq' => ?_
    rcases hq' with hq' | hq'
    · exact .inl (.inr (.inr hq'))
    · exact .inl (.inl hq')
end Go.Proofs.Ytgmfbjehdcdioaa
