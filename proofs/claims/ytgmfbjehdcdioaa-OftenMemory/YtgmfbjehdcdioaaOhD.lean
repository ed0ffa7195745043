import Derived.Test.YtgmfbjehdcdioaaOhC
import Derived.Test.YtgmfbjehdcdioaaOgG
set_option linter.unusedSimpArgs false
set_option linter.unusedVariables false
set_option maxRecDepth 100000
namespace Go.Proofs.Ytgmfbjehdcdioaa
open Go.RowKit Go.Sort

theorem ensL_val {L : List (Vk × Nat)} (hn : (L.map (·.1)).Nodup) (x v : Vk) : valN (ensL L x) v = valN L v := by
  unfold ensL
  cases hx : atK L x with
  | some q => rfl
  | none =>
    have e : L ++ [(x, 0)] = setL L x 0 := by unfold setL; rw [hx]
    simp only
    rw [e, setL_val hn]
    by_cases e2 : x = v
    · subst e2; rw [if_pos rfl, valN_none hx]
    · rw [if_neg e2]
theorem OwnF.facts {w : World} {base g N cap j : Nat} {L : List Cn} {x : Cn} (h : OwnF w base (.slice (some ⟨g, 0, none⟩) N cap) L) (hj : L[j]? = some x) :
    w.cell? ⟨g, j * 5, none⟩ = some (.int .i64 x.k) ∧ w.cell? ⟨g, j * 5 + 1, none⟩ = some (.int .i64 x.n) ∧ w.cell? ⟨g, j * 5 + 2, none⟩ = some (.string x.s) ∧ w.cell? ⟨g, j * 5 + 3, none⟩ = some (.int .i64 x.lo) ∧ w.cell? ⟨g, j * 5 + 4, none⟩ = some (.int .i64 x.hi) := by
  have hN := h.len
  subst hN
  have hl := (List.getElem?_eq_some_iff.1 hj).1
  refine ⟨?_, ?_, ?_, ?_, ?_⟩
  · rw [World.ownsRow.cellAt h (j * 5) (by omega)]; exact c5_at L j 0 x hj (by omega)
  · rw [World.ownsRow.cellAt h (j * 5 + 1) (by omega)]; exact c5_at L j 1 x hj (by omega)
  · rw [World.ownsRow.cellAt h (j * 5 + 2) (by omega)]; exact c5_at L j 2 x hj (by omega)
  · rw [World.ownsRow.cellAt h (j * 5 + 3) (by omega)]; exact c5_at L j 3 x hj (by omega)
  · rw [World.ownsRow.cellAt h (j * 5 + 4) (by omega)]; exact c5_at L j 4 x hj (by omega)
theorem OwnF.later {w w' : World} {base : Nat} {S : Value} {L : List Cn} (h : OwnF w base S L) (hb : Below w.heap.size w w') : OwnF w' base S L := own_later h hb
/-- What has come is clean. -/
def ClX (xs : List (Vk × Nat)) : Prop := ∀ q ∈ xs, cleanK q.1 = q.1
theorem cnt_in {xs : List (Vk × Nat)} {v : Vk} (h : 0 < cnt xs v) : ∃ q ∈ xs, q.1 = v := by
  induction xs with
  | nil => simp [cnt] at h
  | cons p l ih =>
    by_cases e : p.1 = v
    · exact ⟨p, List.mem_cons_self, e⟩
    · have : cnt (p :: l) v = cnt l v := by simp [cnt, e]
      rw [this] at h
      obtain ⟨q, hq, e2⟩ := ih h
      exact ⟨q, List.mem_cons_of_mem _ hq, e2⟩
theorem Loose.clean {k fl : Nat} {cs : List (Ct Vk)} {xs : List (Vk × Nat)} (h : Loose k fl cs xs) (hx : ClX xs) {c : Ct Vk} (hc : c ∈ cs) : cleanK c.v = c.v := by
  have h1 := h.pos c hc
  have h2 := h.low c hc
  obtain ⟨q, hq, e⟩ := cnt_in (xs := xs) (v := c.v) (by omega)
  rw [← e]; exact hx q hq

/-- All that is told: each as it is told alone, rising. -/
structure AllOk (k fl n : Nat) (E : Nat → Nat × Cn) (ys : List Cn) : Prop where
  few : ys.length ≤ k
  told : ∀ (j : Nat) (y : Cn), ys[j]? = some y → cleanK y.key = y.key ∧ loOf (cts E n) y.key = y.lo ∧ hiOf fl (cts E n) y.key = y.hi ∧ 0 < y.lo
  rises : ∀ (j : Nat) (y z : Cn), ys[j]? = some y → ys[j + 1]? = some z → ordV y.key z.key < 0
  all : ∀ c ∈ cts E n, ∃ (j : Nat) (y : Cn), ys[j]? = some y ∧ y.key = c.v
theorem all_ok {k fl n : Nat} {E : Nat → Nat × Cn} {xs : List (Vk × Nat)} {ys : List Cn} (hl : Loose k fl (cts E n) xs) (hx : ClX xs) (hn : n ≤ k) (hp : ys.Perm (tolds E n)) (hr : ys.Pairwise fun x y => ordC x y ≤ 0) : AllOk k fl n E ys := by
  have hmem : ∀ y : Cn, y ∈ ys → ∃ i, i < n ∧ (E i).2 = y := fun y hy => by
    obtain ⟨e, he, rfl⟩ := List.mem_map.1 (hp.mem_iff.1 hy)
    obtain ⟨i, hi, rfl⟩ := List.mem_map.1 he
    exact ⟨i, List.mem_range.1 hi, rfl⟩
  have htold : ∀ (j : Nat) (y : Cn), ys[j]? = some y → cleanK y.key = y.key ∧ loOf (cts E n) y.key = y.lo ∧ hiOf fl (cts E n) y.key = y.hi ∧ 0 < y.lo := fun j y hj => by
    obtain ⟨i, hi, rfl⟩ := hmem y (List.mem_of_getElem? hj)
    have hm := cts_mem (E := E) hi
    exact ⟨hl.clean hx hm, lo_in hl.once hm, hi_in hl.once hm, hl.pos _ hm⟩
  have hnd : (ys.map (·.key)).Nodup := by
    have h1 := hl.once
    have e : (cts E n).map (·.v) = (tolds E n).map (·.key) := by unfold cts tolds; rw [List.map_map, List.map_map]; rfl
    rw [e] at h1
    exact (hp.map _).nodup_iff.2 h1
  refine ⟨by rw [hp.length_eq, tolds_len]; exact hn, htold, fun j y z hy hz => ?_, fun c hc => ?_⟩
  · obtain ⟨h1, e1⟩ := List.getElem?_eq_some_iff.1 hy
    obtain ⟨h2, e2⟩ := List.getElem?_eq_some_iff.1 hz
    have h3 := List.pairwise_iff_getElem.1 hr j (j + 1) h1 h2 (by omega)
    rw [e1, e2] at h3
    rcases Int.lt_or_eq_of_le h3 with h | h
    · exact h
    · have h4 := ord_eq (x := y.key) (y := z.key) h
      rw [(htold j y hy).1, (htold (j + 1) z hz).1] at h4
      have h5 : (ys.map (·.key))[j]? = some y.key := by rw [List.getElem?_map, hy]; rfl
      have h6 : (ys.map (·.key))[j + 1]? = some z.key := by rw [List.getElem?_map, hz]; rfl
      have := (List.getElem?_inj (by simpa using h1) hnd).1 (h5.trans (by rw [h6, h4]))
      omega
  · obtain ⟨e, he, rfl⟩ := List.mem_map.1 hc
    have : e.2 ∈ ys := hp.mem_iff.2 (List.mem_map.2 ⟨e, he, rfl⟩)
    obtain ⟨j, hj, e2⟩ := List.mem_iff_getElem.1 this
    exact ⟨j, e.2, by rw [List.getElem?_eq_getElem hj, e2], rfl⟩

/-- The law's first loop, under way. -/
structure OfS (W7 wr : World) (sb : Nat) (ys : List Cn) (i : Nat) (SL : List (Vk × Nat)) : Prop where
  mp : MpN wr sb SL
  nod : (SL.map (·.1)).Nodup
  has : ∀ (j : Nat) (y : Cn), j < i → ys[j]? = some y → 0 < valN SL y.key
  small : ∀ v, valN SL v ≤ i
  bel : Below W7.heap.size W7 wr
  new : W7.heap.size ≤ sb
theorem OfS.later {W7 wr w' : World} {sb i : Nat} {ys : List Cn} {SL : List (Vk × Nat)} (h : OfS W7 wr sb ys i SL) (hb : Below wr.heap.size wr w') : OfS W7 w' sb ys i SL :=
  ⟨h.mp.later hb, h.nod, h.has, h.small, below_step h.bel hb, h.new⟩
theorem OfS.start (W7 : World) (ys : List Cn) : OfS W7 (W7.alloc (.map #[] 0)) W7.heap.size ys 0 [] :=
  ⟨⟨#[], 0, heap_alloc_new _ _, by simp [EntsN], by simp, by simp⟩, by simp, fun j y h => absurd h (Nat.not_lt_zero _), fun v => Nat.le_refl _, below_alloc (Below.refl _ _) _, Nat.le_refl _⟩
theorem OfS.put {W7 wr wx : World} {sb i : Nat} {ys : List Cn} {SL : List (Vk × Nat)} {y : Cn} (h : OfS W7 wr sb ys i SL) (hy : ys[i]? = some y) (hm : MpN wx sb (setL SL y.key (valN SL y.key + 1))) (hk : Below W7.heap.size W7 wx) : OfS W7 wx sb ys (i + 1) (setL SL y.key (valN SL y.key + 1)) := by
  refine ⟨hm, setL_keys h.nod _ _, fun j z hj hz => ?_, fun v => ?_, hk, h.new⟩
  · rw [setL_val h.nod]
    by_cases e : y.key = z.key
    · rw [if_pos e]; omega
    · rw [if_neg e]
      by_cases e2 : j = i
      · subst e2; rw [hy] at hz; injection hz with hz; rw [hz] at e; exact absurd rfl e
      · exact h.has j z (by omega) hz
  · rw [setL_val h.nod]
    have := h.small y.key
    have := h.small v
    split <;> omega
theorem below_putO {W7 wr : World} {sb : Nat} {o : Obj} (h : Below W7.heap.size W7 wr) (hn : W7.heap.size ≤ sb) : Below W7.heap.size W7 (putO wr sb o) :=
  ⟨h.os, h.tape, h.output, by have := h.size; simp [putO]; omega, fun k hk => by rw [putO_ne (by omega)]; exact h.block k hk⟩
end Go.Proofs.Ytgmfbjehdcdioaa
