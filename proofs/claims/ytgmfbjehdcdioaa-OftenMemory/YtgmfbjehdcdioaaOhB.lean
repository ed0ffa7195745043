import Derived.Test.YtgmfbjehdcdioaaOhA
set_option linter.unusedSimpArgs false
set_option linter.unusedVariables false
set_option maxRecDepth 100000
namespace Go.Proofs.Ytgmfbjehdcdioaa
open Go.RowKit Go.Sort

/-- An iterator in block r over the map in block mb, which holds L; todo: what has not come yet. -/
def Rg (w : World) (mb r : Nat) (L todo : List (Vk × Nat)) : Prop :=
  ∃ es clk seen c0, w.heap[mb]? = some (.map es clk) ∧ EsOk es clk L ∧ w.heap[r]? = some (.mapIter (some mb) clk seen c0) ∧ clk ≤ c0 ∧ EntsN (leftOf es seen).toList todo
/-- The same, behind a step: q has come. -/
def RgE (w : World) (mb r : Nat) (L todo : List (Vk × Nat)) (q : Vk × Nat) : Prop :=
  ∃ (es : Array MapEntry) (clk : Nat) (seen : Array Nat) (e : MapEntry), w.heap[mb]? = some (.map es clk) ∧ EsOk es clk L ∧ w.heap[r]? = some (.mapIter (some mb) clk (seen.push e.born) clk) ∧ e ∈ es.toList ∧ e.key = q.1.v ∧ e.val = nv q.2 ∧ EntsN (leftOf es (seen.push e.born)).toList todo
theorem RgE.rg {w : World} {mb r : Nat} {L todo : List (Vk × Nat)} {q : Vk × Nat} (h : RgE w mb r L todo q) : Rg w mb r L todo := by
  obtain ⟨es, clk, seen, e, h1, h2, h3, _, _, _, h7⟩ := h
  exact ⟨es, clk, _, clk, h1, h2, h3, Nat.le_refl _, h7⟩
theorem Rg.lt {w : World} {mb r : Nat} {L todo : List (Vk × Nat)} (h : Rg w mb r L todo) : mb < w.heap.size ∧ r < w.heap.size := by
  obtain ⟨es, clk, seen, c0, h1, _, h3, _⟩ := h
  exact ⟨(Array.getElem?_eq_some_iff.1 h1).1, (Array.getElem?_eq_some_iff.1 h3).1⟩
theorem Rg.keep {w w' : World} {mb r : Nat} {L todo : List (Vk × Nat)} (h : Rg w mb r L todo) (h1 : w'.heap[mb]? = w.heap[mb]?) (h2 : w'.heap[r]? = w.heap[r]?) : Rg w' mb r L todo := by
  obtain ⟨es, clk, seen, c0, q1, q2, q3, q4⟩ := h
  exact ⟨es, clk, seen, c0, by rw [h1]; exact q1, q2, by rw [h2]; exact q3, q4⟩
theorem Rg.later {w w' : World} {mb r : Nat} {L todo : List (Vk × Nat)} (h : Rg w mb r L todo) (hb : Below w.heap.size w w') : Rg w' mb r L todo := h.keep (hb.block _ h.lt.1) (hb.block _ h.lt.2)
theorem RgE.keep {w w' : World} {mb r : Nat} {L todo : List (Vk × Nat)} {q : Vk × Nat} (h : RgE w mb r L todo q) (h1 : w'.heap[mb]? = w.heap[mb]?) (h2 : w'.heap[r]? = w.heap[r]?) : RgE w' mb r L todo q := by
  obtain ⟨es, clk, seen, e, q1, q2, q3, q4⟩ := h
  exact ⟨es, clk, seen, e, by rw [h1]; exact q1, q2, by rw [h2]; exact q3, q4⟩
theorem Rg.mp {w : World} {mb r : Nat} {L todo : List (Vk × Nat)} (h : Rg w mb r L todo) : MpN w mb L := by
  obtain ⟨es, clk, seen, c0, q1, q2, _⟩ := h
  exact ⟨es, clk, q1, q2⟩
theorem Rg.size {w : World} {mb r : Nat} {L todo : List (Vk × Nat)} (h : Rg w mb r L todo) : w.heap[mb]? ≠ w.heap[r]? := by
  obtain ⟨es, clk, seen, c0, q1, _, q3, _⟩ := h
  rw [q1, q3]; intro e; cases e
/-- How many are left. -/
def rgLeft (w : World) (mb r : Nat) : Nat := match w.heap[mb]?, w.heap[r]? with
  | some (.map es _), some (.mapIter _ _ seen _) => (leftOf es seen).size
  | _, _ => 0
theorem Rg.left {w : World} {mb r : Nat} {L todo : List (Vk × Nat)} (h : Rg w mb r L todo) : rgLeft w mb r = todo.length := by
  obtain ⟨es, clk, seen, c0, q1, _, q3, _, q5⟩ := h
  unfold rgLeft
  rw [q1, q3]
  have := congrArg List.length q5
  simpa using this

theorem range_run {t : TypeId} (M : NumMap t) {W : World} {mb : Nat} {L : List (Vk × Nat)} (h : MpN W mb L) :
    ∃ o, (Instr.range t (.map (some mb))).run Try.prog W = .ok (.pointer (some ⟨W.heap.size, 0, none⟩)) (W.alloc o) ∧ Rg (W.alloc o) mb W.heap.size L L := by
  have hlt := h.lt
  obtain ⟨es, clk, hh, he⟩ := h
  refine ⟨.mapIter (some mb) clk #[] clk, ?_, es, clk, #[], clk, ?_, he, ?_, Nat.le_refl _, ?_⟩
  · unfold Instr.range
    simp only [Sem.run_bind, run_underlying M.u, Result.andThen_ok, get_map hh, Sem.run_pure]
    rfl
  · rw [(below_alloc (Below.refl _ W) _).block mb hlt]; exact hh
  · exact heap_alloc_new _ _
  · have : (leftOf es #[]) = es := by unfold leftOf; simp
    rw [this]; exact he.ents

theorem ents_split {l1 l2 : List MapEntry} {e : MapEntry} {todo : List (Vk × Nat)} (h : EntsN (l1 ++ e :: l2) todo) : ∃ pre q post, todo = pre ++ q :: post ∧ e.key = q.1.v ∧ e.val = nv q.2 ∧ EntsN (l1 ++ l2) (pre ++ post) := by
  unfold EntsN at h ⊢
  rw [List.map_append, List.map_cons] at h
  have hs := h.symm
  rw [List.map_eq_append_iff] at hs
  obtain ⟨pre, r, rfl, h1, h2⟩ := hs
  rw [List.map_eq_cons_iff] at h2
  obtain ⟨q, post, rfl, h3, h4⟩ := h2
  simp only [Prod.mk.injEq] at h3
  exact ⟨pre, q, post, rfl, h3.1.symm, h3.2.symm, by rw [List.map_append, List.map_append, h1, h4]⟩

theorem next_run {w : World} {mb r : Nat} {L todo : List (Vk × Nat)} (h : Rg w mb r L todo) (ty : TypeId) :
    (todo = [] ∧ (Instr.next (.pointer (some ⟨r, 0, none⟩)) false ty).run Try.prog w = .ok (.tuple #[.bool false]) w) ∨
    ∃ pre q post w1 o, todo = pre ++ q :: post ∧ (w1 = w ∨ w1 = w.drew) ∧ (Instr.next (.pointer (some ⟨r, 0, none⟩)) false ty).run Try.prog w = .ok (.tuple #[.bool true, q.1.v, nv q.2]) (putO w1 r o) ∧ RgE (putO w1 r o) mb r L (pre ++ post) q := by
  have hne := h.size
  obtain ⟨hlm, hlr⟩ := h.lt
  obtain ⟨es, clk, seen, c0, q1, q2, q3, q4, q5⟩ := h
  rcases run_next_at (P := Try.prog) w ty r mb clk c0 seen es clk q3 q1 q2.old q4 with ⟨h0, hr⟩ | ⟨e, he, w1, hw1, hr⟩
  · left
    refine ⟨?_, hr⟩
    have := congrArg List.length q5
    rw [List.length_map, List.length_map, Array.length_toList, h0] at this
    exact List.eq_nil_of_length_eq_zero this.symm
  · right
    obtain ⟨l1, l2, hl⟩ := List.append_of_mem he
    have hes : e ∈ es.toList := by
      have : e ∈ (leftOf es seen).toList := he
      unfold leftOf at this
      simp at this ⊢
      exact this.1
    have q5' := q5
    rw [hl] at q5'
    obtain ⟨pre, q, post, e1, e2, e3, e4⟩ := ents_split q5'
    have hmr : mb ≠ r := fun e => hne (by rw [e])
    have hlr1 : r < w1.heap.size := by rcases hw1 with rfl | rfl <;> exact hlr
    have hm1 : w1.heap[mb]? = w.heap[mb]? := by rcases hw1 with rfl | rfl <;> rfl
    refine ⟨pre, q, post, w1, .mapIter (some mb) clk (seen.push e.born) clk, e1, hw1, ?_, es, clk, seen, e, ?_, q2, putO_at hlr1, hes, e2, e3, ?_⟩
    · rw [hr, e2, e3]; rfl
    · rw [putO_ne hmr, hm1]; exact q1
    · have hlf : (leftOf es (seen.push e.born)).toList = l1 ++ l2 := by
        have h1 : (leftOf es (seen.push e.born)).toList = (leftOf es seen).toList.filter (fun y => !(y.born == e.born)) := by
          unfold leftOf
          rw [Array.toList_filter, Array.toList_filter, List.filter_filter]
          refine List.filter_congr fun y _ => ?_
          simp only [Array.contains_push]
          cases seen.contains y.born <;> cases (e.born == y.born) <;> cases hz : (y.born == e.born) <;> simp_all
        rw [h1, hl, List.filter_append, List.filter_cons_of_neg (by simp)]
        have hnd : ((leftOf es seen).toList.map (·.born)).Nodup := by
          refine q2.once.sublist (List.Sublist.map _ ?_)
          unfold leftOf
          rw [Array.toList_filter]
          exact List.filter_sublist
        rw [hl, List.map_append, List.map_cons, List.nodup_append] at hnd
        obtain ⟨n1, n2, n3⟩ := hnd
        rw [List.nodup_cons] at n2
        congr 1
        · rw [List.filter_eq_self]
          intro y hy
          simp only [Bool.not_eq_true', beq_eq_false_iff_ne]
          exact n3 _ (List.mem_map.2 ⟨y, hy, rfl⟩) _ List.mem_cons_self
        · rw [List.filter_eq_self]
          intro y hy
          simp only [Bool.not_eq_true', beq_eq_false_iff_ne]
          exact fun e' => n2.1 (List.mem_map.2 ⟨y, hy, e'⟩)
      rw [hlf]; exact e4
theorem entry_run {w : World} {mb r : Nat} {L todo : List (Vk × Nat)} {q : Vk × Nat} (h : RgE w mb r L todo q) : (Instr.entry (.pointer (some ⟨r, 0, none⟩))).run Try.prog w = .ok (.tuple #[q.1.v, nv q.2]) w := by
  obtain ⟨es, clk, seen, e, q1, q2, q3, q4, q5, q6, q7⟩ := h
  have := run_entry_at (P := Try.prog) w r mb clk seen es clk e q3 q1 q4 q2.once
  rw [this, q5, q6]

/-! What a map says, over lists. -/
theorem atK_mem {L : List (Vk × Nat)} (hn : (L.map (·.1)).Nodup) {q : Vk × Nat} (hq : q ∈ L) : ∃ j, atK L q.1 = some (j, q.2) := by
  cases h : atK L q.1 with
  | none => exact absurd rfl (atK_none h q hq)
  | some jp =>
    obtain ⟨j, p⟩ := jp
    have h1 := atK_some h
    obtain ⟨i, hi, he⟩ := List.mem_iff_getElem.1 hq
    have h2 : L[i]? = some q := by rw [List.getElem?_eq_getElem hi, he]
    have h3 : (L.map (·.1))[j]? = some q.1 := by rw [List.getElem?_map, h1]; rfl
    have h4 : (L.map (·.1))[i]? = some q.1 := by rw [List.getElem?_map, h2]; rfl
    have hij := (List.getElem?_inj (by rw [List.length_map]; exact hi) hn).1 (h4.trans h3.symm)
    subst hij
    rw [h1] at h2
    injection h2 with h2
    exact ⟨i, by rw [← h2]⟩
theorem valN_mem {L : List (Vk × Nat)} (hn : (L.map (·.1)).Nodup) {q : Vk × Nat} (hq : q ∈ L) : valN L q.1 = q.2 := by
  obtain ⟨j, h⟩ := atK_mem hn hq
  exact valN_some h
theorem valN_out {L : List (Vk × Nat)} {x : Vk} (h : ∀ q ∈ L, q.1 ≠ x) : valN L x = 0 := by
  refine valN_none ?_
  cases hx : atK L x with
  | none => rfl
  | some jp => exact absurd rfl (h _ (List.mem_of_getElem? (atK_some hx)))
theorem atK_no {L : List (Vk × Nat)} {x : Vk} (h : ∀ q ∈ L, q.1 ≠ x) : atK L x = none := by
  cases hx : atK L x with
  | none => rfl
  | some jp => exact absurd rfl (h _ (List.mem_of_getElem? (atK_some hx)))
theorem setL_keys {L : List (Vk × Nat)} (hn : (L.map (·.1)).Nodup) (x : Vk) (u : Nat) : ((setL L x u).map (·.1)).Nodup := by
  unfold setL
  cases hx : atK L x with
  | none =>
    simp only
    rw [List.map_append, List.nodup_append]
    refine ⟨hn, by simp, fun a ha b hb e => ?_⟩
    simp at hb
    obtain ⟨q, hq, rfl⟩ := List.mem_map.1 ha
    exact atK_none hx q hq (e.trans hb)
  | some jp =>
    obtain ⟨j, p⟩ := jp
    simp only
    have h1 := atK_some hx
    have : (L.set j (x, u)).map (·.1) = L.map (·.1) := by
      rw [List.map_set]
      have h2 : (L.map (·.1))[j]? = some x := by rw [List.getElem?_map, h1]; rfl
      obtain ⟨hl, he⟩ := List.getElem?_eq_some_iff.1 h2
      apply List.ext_getElem?
      intro i
      by_cases e : j = i
      · subst e; rw [List.getElem?_set_self hl, h2]
      · rw [List.getElem?_set_ne e]
    rw [this]; exact hn
theorem setL_val {L : List (Vk × Nat)} (hn : (L.map (·.1)).Nodup) (x : Vk) (u : Nat) (v : Vk) : valN (setL L x u) v = if x = v then u else valN L v := by
  have hn' := setL_keys hn x u
  by_cases e : x = v
  · subst e
    rw [if_pos rfl]
    have hm : (x, u) ∈ setL L x u := by
      unfold setL
      cases hx : atK L x with
      | none => simp
      | some jp =>
        obtain ⟨j, p⟩ := jp
        exact List.mem_of_getElem? (i := j) (by rw [List.getElem?_set_self (List.getElem?_eq_some_iff.1 (atK_some hx)).1])
    exact valN_mem hn' hm
  · rw [if_neg e]
    cases hv : atK L v with
    | none =>
      rw [valN_none hv]
      refine valN_out fun q hq eq => ?_
      have := atK_none hv
      unfold setL at hq
      cases hx : atK L x with
      | none =>
        rw [hx] at hq
        simp only at hq
        rcases List.mem_append.1 hq with hq | hq
        · exact this q hq eq
        · simp at hq; rw [hq] at eq; exact e eq
      | some jp =>
        rw [hx] at hq
        simp only at hq
        rcases List.mem_or_eq_of_mem_set hq with hq | hq
        · exact this q hq eq
        · rw [hq] at eq; exact e eq
    | some jp =>
      obtain ⟨j, p⟩ := jp
      rw [valN_some hv]
      have h1 := atK_some hv
      have hm : (v, p) ∈ setL L x u := by
        unfold setL
        cases hx : atK L x with
        | none => exact List.mem_append_left _ (List.mem_of_getElem? h1)
        | some iq =>
          obtain ⟨i, q⟩ := iq
          have hij : i ≠ j := fun eij => by
            have h2 := atK_some hx
            rw [eij, h1] at h2
            injection h2 with h2
            injection h2 with h2
            exact e h2.symm
          exact List.mem_of_getElem? (i := j) (by rw [List.getElem?_set_ne hij]; exact h1)
      exact valN_mem hn' hm
/-- The counts of what has come. -/
def CtsOf (L xs : List (Vk × Nat)) : Prop := (L.map (·.1)).Nodup ∧ ∀ v, valN L v = cnt xs v
theorem ctsOf_nil : CtsOf [] [] := ⟨by simp, fun v => rfl⟩
theorem CtsOf.add {L xs : List (Vk × Nat)} (h : CtsOf L xs) (x : Vk) (n : Nat) : CtsOf (setL L x (valN L x + n)) (xs ++ [(x, n)]) := by
  refine ⟨setL_keys h.1 _ _, fun v => ?_⟩
  rw [setL_val h.1, cnt_app, cnt_one]
  by_cases e : x = v
  · subst e; rw [if_pos rfl, if_pos rfl, h.2]
  · rw [if_neg e, if_neg e, h.2]; rfl
end Go.Proofs.Ytgmfbjehdcdioaa
