import Derived.Test.YtgmfbjehdcdioaaOgA
import Derived.Test.YtgmfbjehdcdioaaOfY
import Derived.Test.YtgmfbjehdcdioaaShelf
import Derived.Shelf.SlSortCmp.QuietGrown
set_option linter.unusedSimpArgs false
set_option linter.unusedVariables false
set_option maxRecDepth 100000
namespace Go.Proofs.Ytgmfbjehdcdioaa
open Go.RowKit Go.Sort Go.Shelf Go.Lib

theorem Up.grown {w w' : World} (h : Up w w') : ∃ q os', w' = grow (w.drewN q) os' := by
  obtain ⟨p, hp⟩ := regrown_of_below h.1
  have h2 := h.2
  refine ⟨w'.drawn - w.drawn, p.os, ?_⟩
  rw [hp] at h2 ⊢
  simp only [grow, redrawn, World.drewN] at h2 ⊢
  congr 1
  omega

theorem cmp18 {W : World} {p q : Nat} {x y : Int} (hp : W.cell? ⟨p, 4, none⟩ = some (.int .i64 x)) (hq : W.cell? ⟨q, 4, none⟩ = some (.int .i64 y)) :
    Calls Try.prog 18 #[.pointer (some ⟨p, 0, none⟩), .pointer (some ⟨q, 0, none⟩)] W fun e w' => e = .returned (.int .i64 (cmpI x y)) ∧ ∃ n os, w' = grow (W.drewN n) os := by
  have k1 := fun n os => cell_grown (World.block_lt_of_cell? _ _ hp) hp n os
  have k2 := fun n os => cell_grown (World.block_lt_of_cell? _ _ hq) hq n os
  have mixed : Try.prog.follows .mixedOrders = true := by kernel_rfl
  have HC : Hid (∀ V : World, Calls Try.prog 19 #[.int .i64 x, .int .i64 y] V fun e w' => e = .returned (.int .i64 (cmpI x y)) ∧ ∃ q os', w' = grow (V.drewN q) os') := fun V => by
    refine (cmpInt64_any x y V).mono ?_
    rintro _ _ ⟨rfl, rfl⟩
    exact ⟨rfl, 0, #[], by rw [grow_empty]; rfl⟩
  clear hp hq
  go_enter Try.func18, Try.ntmps18
  go_upto_region 1 with fail
  go_quiet_grown (first | (go_at_call 19; exact Calls.grown_of (unhide HC _)))
  go_wp2
  go_ret
  exact ⟨rfl, nq, osq, rfl⟩

def padE (G : Nat → Nat × Cn) (m i : Nat) : Nat × Cn := if i < m then G i else G 0
def encP (G : Nat → Nat × Cn) (m : Nat) : Nat → Value := fun i => pv (padE G m i).1
def ordP (G : Nat → Nat × Cn) (m : Nat) (i j : Nat) : Int := cmpI ((padE G m i).2.hi : Int) ((padE G m j).2.hi : Int)
theorem ltP (G : Nat → Nat × Cn) (m i j : Nat) : ltOf (ordP G m) i j = decide ((padE G m i).2.hi < (padE G m j).2.hi) := by
  unfold ltOf ordP
  rw [decide_eq_decide, cmpI_neg]
  omega
theorem swoP (G : Nat → Nat × Cn) (m : Nat) : SWO (ltOf (ordP G m)) where
  irrefl x := by rw [ltP]; simp
  trans x y z h1 h2 := by rw [ltP] at *; simp only [decide_eq_true_eq] at *; omega
  ntrans x y z h1 h2 := by rw [ltP] at *; simp only [decide_eq_false_iff_not] at *; omega
theorem sortP_cell {enc : Nat → Value} {w : World} {g n p o : Nat} {dk : Array Nat} {os : Array Obj} {v : Value} (h : w.cell? ⟨p, o, none⟩ = some v) (hne : p ≠ g) : (sortWorld enc w g 0 n dk os).cell? ⟨p, o, none⟩ = some v := by
  have hl := World.block_lt_of_cell? _ _ h
  unfold sortWorld
  rw [cell?_grow _ _ _ (by show p < (putRow _ _ _ _ _).heap.size; rw [size_putRow]; exact hl), cell?_putRow_other _ _ g 0 _ _ (Or.inl hne)]
  exact h
theorem padE_in {G : Nat → Nat × Cn} {m i : Nat} (h : i < m) : padE G m i = G i := if_pos h
theorem padE_ex (G : Nat → Nat × Cn) {m : Nat} (hm : 0 < m) (i : Nat) : ∃ j, j < m ∧ padE G m i = G j := by
  unfold padE
  by_cases h : i < m
  · exact ⟨i, h, if_pos h⟩
  · exact ⟨0, hm, if_neg h⟩
theorem own_sortedP {w : World} {base g cap m n : Nat} {enc : Nat → Value} {xs : List Value} {d' : Array Nat} {os : Array Obj} (h : w.ownsRow base 57 1 (.slice (some ⟨g, 0, none⟩) m cap) m xs) (hs : d'.size = m) :
    (sortWorld enc w g 0 n d' os).ownsRow base 57 1 (.slice (some ⟨g, 0, none⟩) m cap) m (d'.toList.map enc) ∧ w.grownBy (sortWorld enc w g 0 n d' os) (some g) := by
  rcases h.2 with ⟨e, _⟩ | ⟨g', cap', cur, e, hb, hh, hnc, hcm, hcs, htake⟩
  · cases e
  injection e with e1 e2 e3
  injection e1 with e1
  injection e1 with e1
  subst e1 e3
  have hlt : g < w.heap.size := (Array.getElem?_eq_some_iff.1 hh).1
  have hheap : (sortWorld enc w g 0 n d' os).heap[g]? = some (.cells (putCells enc 0 d' cur) 57 (0, 0)) := by
    unfold sortWorld grow putRow mapBlock
    simp only [Sort.ahead]
    rw [Array.getElem?_append_left (by simpa using hlt), Array.getElem?_modify, if_pos rfl, hh]
    rfl
  refine ⟨⟨by simp [hs], .inr ⟨g, cap, putCells enc 0 d' cur, rfl, hb, hheap, hnc, hcm, by simp [putCells, hcs], ?_⟩⟩, ⟨rfl, rfl, rfl, ?_, ?_⟩⟩
  · refine List.ext_getElem? fun j => ?_
    rw [List.getElem?_take, Nat.mul_one]
    by_cases hj : j < m
    · rw [if_pos hj, Array.getElem?_toList, List.getElem?_map, Array.getElem?_toList]
      have hjc : j < cur.size := by rw [hcs]; omega
      have hjd : j < d'.size := by omega
      simp only [putCells, Array.getElem?_mapIdx, Array.getElem?_eq_getElem hjc, Option.map_some]
      rw [if_pos ⟨Nat.zero_le _, by omega⟩, Nat.sub_zero, Array.getElem?_eq_getElem hjd, getElem!_pos d' j hjd]
      rfl
    · rw [if_neg hj, List.getElem?_eq_none (by simp; omega)]
  · unfold sortWorld grow putRow mapBlock
    simp [Sort.ahead]
  · intro k hk hne
    have hkg : g ≠ k := fun e => hne (by rw [e])
    unfold sortWorld grow putRow mapBlock
    simp only [Sort.ahead]
    rw [Array.getElem?_append_left (by simpa using hk), Array.getElem?_modify, if_neg hkg]

/-- Counters put in the order of their highs. -/
structure SrtA (w w' : World) (base : Nat) (S : Value) (m : Nat) (G : Nat → Nat × Cn) (σ : Nat → Nat) : Prop where
  own : w'.ownsRow base 57 1 S m (ptrs (fun i => G (σ i)) m)
  grown : w.grownBy w' S.ownBlock
  perm : (lisE (fun i => G (σ i)) m).Perm (lisE G m)
  rises : ∀ i j, i < j → j < m → (G (σ i)).2.hi ≤ (G (σ j)).2.hi
  inn : ∀ i, i < m → σ i < m
  inj : ∀ i j, i < m → j < m → σ i = σ j → i = j

set_option maxHeartbeats 1000000 in
theorem psort_any {w : World} {base m : Nat} {S : Value} {G : Nat → Nat × Cn} (hown : w.ownsRow base 57 1 S m (ptrs G m)) (hct : ∀ i, i < m → w.cell? ⟨(G i).1, 4, none⟩ = some (.int .i64 (G i).2.hi)) (hne : ∀ i, i < m → S.ownBlock ≠ some (G i).1) (hm : m ≤ 4096) :
    Calls Try.prog 17 #[S, .func (.func 18) #[] #[]] w fun e w' => e = .returned (.tuple #[]) ∧ ∃ σ, SrtA w w' base S m G σ := by
  by_cases h0 : m = 0
  · subst h0
    obtain ⟨a, c, rfl⟩ : ∃ a c, S = .slice a 0 c := by
      rcases hown.2 with ⟨e, _⟩ | ⟨g, cap, cur, e, _⟩
      · exact ⟨_, _, e⟩
      · exact ⟨_, _, e⟩
    have hcon := AnyF.slices_SortFunc_none { Try.sortP with } a c (.func (.func 18) #[] #[]) w
    change Calls Try.prog 17 _ _ _ at hcon
    refine hcon.mono ?_
    rintro e w' ⟨rfl, rfl⟩
    exact ⟨rfl, id, hown, ⟨rfl, rfl, rfl, Nat.le_refl _, fun _ _ _ => rfl⟩, List.Perm.refl _, fun i j _ h => absurd h (Nat.not_lt_zero _), fun i h => absurd h (Nat.not_lt_zero _), fun i j h => absurd h (Nat.not_lt_zero _)⟩
  · have hm0 : 0 < m := by omega
    obtain ⟨g, cap, rfl⟩ : ∃ g cap, S = .slice (some ⟨g, 0, none⟩) m cap := by
      rcases hown.2 with ⟨_, h1⟩ | ⟨g, cap, cur, e, _⟩
      · omega
      · exact ⟨g, cap, e⟩
    have eg : ∀ args w, (callFunc 18 args).run Try.prog w = .ok (.enter 18 args) w := enters_of Try.func18 (by kernel_rfl) rfl
    have hsz : (Array.range m).size = m := by simp
    have hH : Holds (encP G m) w g 0 (Array.range m) := fun j hj => by
      have hj' : j < m := by simpa using hj
      have e1 : (Array.range m)[j]! = j := by rw [getElem!_pos (Array.range m) j hj]; simp
      rw [e1, Nat.zero_add]
      refine ⟨?_, own_frozen hown j⟩
      rw [own_cell hown (ptrs_at G hj')]
      unfold encP; rw [padE_in hj']
    have hcmp : CmpLays1 Try.prog 18 #[] (encP G m) (ordP G m) g 0 (Array.range m).size w := fun n os dk _ x y => by
      obtain ⟨i, hi, ei⟩ := padE_ex G hm0 x
      obtain ⟨j, hj, ej⟩ := padE_ex G hm0 y
      have hni : (G i).1 ≠ g := fun e => hne i hi (by rw [e]; rfl)
      have hnj : (G j).1 ≠ g := fun e => hne j hj (by rw [e]; rfl)
      have := cmp18 (sortP_cell (enc := encP G m) (n := n) (dk := dk) (os := os) (hct i hi) hni) (sortP_cell (enc := encP G m) (n := n) (dk := dk) (os := os) (hct j hj) hnj)
      unfold encP ordP
      rw [ei, ej]
      unfold encP at this
      exact this
    have hcon := Any.slices_SortFunc Try.sortP (encP G m) (fun _ => rfl) (ordP G m) (swoP G m) 18 #[] g 0 cap (Array.range m) w eg hcmp hH (hown.lt g rfl).2 (by rw [hsz]; omega)
    change Calls Try.prog 17 _ _ _ at hcon
    rw [hsz] at hcon
    refine hcon.mono ?_
    rintro e w' ⟨rfl, d', n, os, hp, hs, rfl⟩
    obtain ⟨hp1, hp2, hp3⟩ := hp
    have hd : d'.size = m := by rw [hp1]; simp
    have e2 : d'.extract 0 m = d' := by rw [← hd]; simp
    have e3 : (Array.range m).extract 0 m = Array.range m := by simp
    rw [e2, e3] at hp3
    have hpl : d'.toList.Perm (List.range m) := by
      have h4 : (Array.range m).toList = List.range m := by simp
      have h5 : d'.toList.Perm (Array.range m).toList := by simpa using hp3
      rw [h4] at h5; exact h5
    have hmem : ∀ i, i < m → d'[i]! < m := fun i hi => by
      have : d'[i]! ∈ d'.toList := by rw [getElem!_pos d' i (by omega)]; simp
      exact List.mem_range.1 (hpl.mem_iff.1 this)
    have hnd : d'.toList.Nodup := hpl.nodup_iff.2 List.nodup_range
    have hat : ∀ i, i < m → d'.toList[i]? = some d'[i]! := fun i hi => by rw [Array.getElem?_toList, getElem!_pos d' i (by omega)]; exact Array.getElem?_eq_getElem (by omega)
    obtain ⟨q1, q2⟩ := own_sortedP (enc := encP G m) (n := n) (os := os) hown hd
    have hlis : lisE (fun i => G (d'[i]!)) m = d'.toList.map G := by
      apply List.ext_getElem?
      intro j
      by_cases hj : j < m
      · rw [lisE_at _ hj, List.getElem?_map, hat j hj]; rfl
      · rw [List.getElem?_eq_none (by simp [lisE_len]; omega), List.getElem?_eq_none (by simp; omega)]
    refine ⟨rfl, fun i => d'[i]!, ?_, q2, ?_, fun i j hij hj => ?_, hmem, fun i j hi hj e => ?_⟩
    · have e5 : d'.toList.map (encP G m) = ptrs (fun i => G (d'[i]!)) m := by
        apply List.ext_getElem?
        intro j
        by_cases hj : j < m
        · rw [ptrs_at _ hj, List.getElem?_map, hat j hj]
          simp only [Option.map_some, encP]
          rw [padE_in (hmem j hj)]
        · rw [List.getElem?_eq_none (by simp; omega), List.getElem?_eq_none (by simp [ptrs_len]; omega)]
      rw [← e5]; exact q1
    · rw [hlis]; exact hpl.map G
    · have := hs i j (Nat.zero_le _) hij hj
      rw [ltP, decide_eq_false_iff_not, padE_in (hmem i (by omega)), padE_in (hmem j hj)] at this
      show (G (d'[i]!)).2.hi ≤ (G (d'[j]!)).2.hi
      omega
    · have h1 := hat i hi
      have h2 := hat j hj
      rw [show d'[i]! = d'[j]! from e] at h1
      exact (List.getElem?_inj (by simp; omega) hnd).1 (h1.trans h2.symm)
end Go.Proofs.Ytgmfbjehdcdioaa
