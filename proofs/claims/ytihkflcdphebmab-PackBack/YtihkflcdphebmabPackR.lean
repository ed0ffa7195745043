import Derived.Test.YtihkflcdphebmabShelf
import Derived.Test.YtihkflcdphebmabPackRa
set_option linter.unusedSimpArgs false
set_option linter.unusedVariables false
namespace Go.Proofs.Ytihkflcdphebmab
open Go.RowKit Go.Sort Go.Shelf Go.Lib


instance : Inhabited Val := ⟨Val.null⟩
theorem cmpLays68 (blk off size : Nat) (w : World) : CmpLays Try.prog 68 #[] c3 3 ordV blk off size w :=
  fun _ _ _ _ x y => (order_up x y _).mono fun _ _ ⟨he, hu⟩ => ⟨he, hu.grown⟩
theorem ltOf_ord : ltOf ordV = ltV := rfl
theorem flatK_c3 (d : Array Val) : (flatK c3 3 d).toList = d.toList.flatMap c3 := by
  refine List.ext_getElem? fun j => ?_
  by_cases hj : j < d.size * 3
  · have hd : j / 3 < d.size := by omega
    have e1 : (d.toList)[j / 3]? = some d[j / 3]! := by rw [Array.getElem?_toList, getElem!_pos d (j / 3) hd]; exact Array.getElem?_eq_getElem hd
    have := flat_at d.toList (j / 3) (j % 3) _ e1 (by omega)
    rw [show j / 3 * 3 + j % 3 = j by omega] at this
    rw [this]
    simp only [flatK, Array.toList_map, List.getElem?_map]
    rw [Array.getElem?_toList, Array.getElem?_range, if_pos hj]
    simp only [Option.map_some]
    have h3 : j % 3 < (c3 d[j / 3]!).length := by simp [c3]; omega
    rw [getElem!_pos (c3 d[j / 3]!) (j % 3) h3, List.getElem?_eq_getElem h3]
  · rw [List.getElem?_eq_none (by simp [flatK]; omega), List.getElem?_eq_none (by rw [flat_len]; simpa using hj)]
theorem own_holdsK {w : World} {base g cap N : Nat} {xs : List Val} (h : OwnV w base (.slice (some ⟨g, 0, none⟩) N cap) xs) : HoldsK c3 3 w g 0 xs.toArray := by
  intro j hj
  have hN := h.len
  subst hN
  rw [size_flatK] at hj
  have hj' : j < xs.length * 3 := by simpa using hj
  have e1 := flatK_c3 xs.toArray
  refine ⟨?_, ?_⟩
  · rw [Nat.zero_add, World.ownsRow.cellAt h j hj']
    simp only [List.toList_toArray] at e1
    rw [← e1, Array.getElem?_toList, Array.getElem?_eq_getElem (by simpa using hj')]
    rw [getElem!_pos _ _ (by simpa using hj')]
    rfl
  · rw [Nat.zero_add]; exact World.ownsRow.frozenAt h j
theorem own_sorted {w : World} {base g cap N n : Nat} {xs : List Val} {d' : Array Val} {os : Array Obj} (h : OwnV w base (.slice (some ⟨g, 0, none⟩) N cap) xs) (hs : d'.size = xs.length) :
    OwnV (sortWorldK c3 3 w g 0 n d' os) base (.slice (some ⟨g, 0, none⟩) N cap) d'.toList ∧ Grew w (sortWorldK c3 3 w g 0 n d' os) (.slice (some ⟨g, 0, none⟩) N cap) (.slice (some ⟨g, 0, none⟩) N cap) := by
  have hN := h.len
  subst hN
  rcases h.2 with ⟨e, _⟩ | ⟨g', cap', cur, e, hb, hh, hnc, hcm, hcs, htake⟩
  · cases e
  injection e with e1 e2 e3
  injection e1 with e1
  injection e1 with e1
  subst e1 e3
  have hlt : g < w.heap.size := (Array.getElem?_eq_some_iff.1 hh).1
  have hs2 : d'.toList.length = xs.length := by simpa using hs
  have hheap : (sortWorldK c3 3 w g 0 n d' os).heap[g]? = some (.cells (putCells id 0 (flatK c3 3 d') cur) 40 (0, 0)) := by
    unfold sortWorldK grow putRowK putRow mapBlock
    simp only [Sort.ahead]
    rw [Array.getElem?_append_left (by simpa using hlt), Array.getElem?_modify, if_pos rfl, hh]
    rfl
  refine ⟨⟨?_, .inr ⟨g, cap, putCells id 0 (flatK c3 3 d') cur, by rw [hs2], hb, hheap, by rw [hs2]; exact hnc, hcm, by simp [putCells, hcs], ?_⟩⟩, ⟨⟨rfl, rfl, rfl, ?_, ?_⟩, .inl rfl⟩⟩
  · rw [flat_len]
  · rw [← flatK_c3, Array.length_toList]
    refine List.ext_getElem? fun j => ?_
    rw [List.getElem?_take]
    by_cases hj : j < d'.size * 3
    · rw [if_pos hj, Array.getElem?_toList, Array.getElem?_toList]
      have hjc : j < cur.size := by rw [hcs]; omega
      simp only [putCells, Array.getElem?_mapIdx, Array.getElem?_eq_getElem hjc, Option.map_some]
      rw [if_pos ⟨Nat.zero_le _, by rw [size_flatK]; omega⟩, Nat.sub_zero, Array.getElem?_eq_getElem (by rw [size_flatK]; exact hj), getElem!_pos _ _ (by rw [size_flatK]; exact hj)]
      rfl
    · rw [if_neg hj, List.getElem?_eq_none (by rw [Array.length_toList, size_flatK]; omega)]
  · unfold sortWorldK grow putRowK putRow mapBlock
    simp [Sort.ahead]
  · intro k hk hne
    have hkg : g ≠ k := fun e => hne (by rw [e]; rfl)
    unfold sortWorldK grow putRowK putRow mapBlock
    simp only [Sort.ahead]
    rw [Array.getElem?_append_left (by simpa using hk), Array.getElem?_modify, if_neg hkg]

theorem vsort_any (base : Nat) (xs : List Val) (v : Value) (w : World) (hl : xs.length ≤ 1048576) (hown : OwnV w base v xs) :
    Calls Try.prog 77 #[v, .func (.func 68) #[] #[]] w fun e w' => e = .returned (.tuple #[]) ∧ ∃ ys, OwnV w' base v ys ∧ Grew w w' v v ∧ ys.Perm xs ∧ Rises ys := by
  rcases hown.2 with ⟨rfl, h0⟩ | ⟨g, cap, cur, rfl, rest⟩
  · have hx : xs = [] := List.eq_nil_of_length_eq_zero h0
    subst hx
    have hcon := AnyF.slices_SortFunc_none Try.sortL none 0 (.func (.func 68) #[] #[]) w
    change Calls Try.prog 77 _ _ _ at hcon
    refine hcon.mono ?_
    rintro e w' ⟨rfl, rfl⟩
    exact ⟨rfl, [], hown, Grew.refl _ _, List.Perm.refl _, List.Pairwise.nil⟩
  · have eg : ∀ args w, (callFunc 68 args).run Try.prog w = .ok (.enter 68 args) w := enters_of Try.func68 (by kernel_rfl) rfl
    have hcon := AnyQ.slices_SortFunc Try.sortL 3 Try.isAgg40 Try.sizeOf40 c3 (fun _ => rfl) (fun x v hv => c3_one x v hv) ordV swoV 68 #[] g 0 cap xs.toArray w eg (cmpLays68 g 0 _ w) (own_holdsK hown) (World.ownsRow.lt hown g rfl).2 (by simp; omega)
    change Calls Try.prog 77 _ _ _ at hcon
    have e1 : xs.toArray.size = xs.length := by simp
    rw [e1] at hcon
    refine hcon.mono ?_
    rintro e w' ⟨rfl, d', n, os, hp, hs, rfl⟩
    obtain ⟨hp1, hp2, hp3⟩ := hp
    have hsz : d'.size = xs.length := by rw [hp1]; simp
    obtain ⟨q1, q2⟩ := own_sorted (n := n) (os := os) hown hsz
    refine ⟨rfl, d'.toList, q1, q2, ?_, ?_⟩
    · have e2 : d'.extract 0 xs.length = d' := by rw [← hsz]; simp
      have e3 : xs.toArray.extract 0 xs.length = xs.toArray := by rw [← e1]; simp
      rw [e2, e3] at hp3
      simpa using hp3
    · refine List.pairwise_iff_getElem.2 fun i j hi hj hij => ?_
      have hi' : i < d'.size := by simpa using hi
      have hj' : j < d'.size := by simpa using hj
      have := hs i j (Nat.zero_le _) hij (by omega)
      rw [getElem!_pos d' i hi', getElem!_pos d' j hj', ltOf_ord] at this
      simp only [ltV, decide_eq_false_iff_not] at this
      have h2 := ord_anti (d'[i]'hi') (d'[j]'hj')
      simp only [Array.getElem_toList]
      omega
end Go.Proofs.Ytihkflcdphebmab
