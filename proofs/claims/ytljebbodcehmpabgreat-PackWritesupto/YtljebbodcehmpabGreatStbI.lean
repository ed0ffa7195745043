import Derived.Test.YtljebbodcehmpabGreatShelf
import Derived.Test.YtljebbodcehmpabGreatStbH
import Derived.Shelf.GgSortMore.Stable
import Derived.Shelf.GgSortFunc.SmallK
set_option linter.unusedSimpArgs false
set_option linter.unusedVariables false
namespace Go.Proofs.YtljebbodcehmpabGreat
open Go.RowKit Go.Sort Go.Shelf Go.Lib

noncomputable def tT : TypeInfo := (Tryz.prog.info? 44).get (by kernel_rfl)
noncomputable def tE : TypeInfo := (Tryz.prog.info? 37).get (by kernel_rfl)
theorem tK (n : Nat) (h2 : 2 ≤ n) : Lib.swapperK n tE 25 = 9 := by
  have a : tE.hasPointers = true := by kernel_rfl
  have b : tE.bytes = 32 := by kernel_rfl
  have c : (n == 0) = false := by simp; omega
  have d : (n == 1) = false := by simp; omega
  simp [Lib.swapperK, a, b, c, d]
theorem swapOK (base g N cap : Nat) (W : World) (L : List Val) (i j : Nat) (hO : OwnV W base (.slice (some ⟨g, 0, none⟩) N cap) L) (hi : i < N) (hj : j < N) :
    ∃ W', (callFunc 119 (#[.int .i64 i, .int .i64 j] ++ #[.slice (some ⟨g, 0, none⟩) N cap, typeHandle Tryz.prog 37])).run Tryz.prog W = .ok (.value (.tuple #[])) W' ∧ OwnV W' base (.slice (some ⟨g, 0, none⟩) N cap) (swapL L i j) ∧ Grew W W' (.slice (some ⟨g, 0, none⟩) N cap) (.slice (some ⟨g, 0, none⟩) N cap) := by
  have hl := hO.len
  have sz : tE.size = 3 := by kernel_rfl
  have F : ∀ q, q < N → (∀ k v, (c3 (atL L q))[k]? = some v → W.cell? ⟨g, 0 + q * tE.size + k, none⟩ = some v) ∧ ∀ k, k < tE.size → W.frozen? ⟨g, 0 + q * tE.size + k, none⟩ = false := fun q hq => by
    obtain ⟨a0, a1, a2, b0, b1, b2⟩ := hO.facts (atL_some (L := L) (k := q) (by omega))
    rw [sz, Nat.zero_add]
    refine ⟨fun k v hv => ?_, fun k hk => ?_⟩
    · match k, hv with
      | 0, hv => simp [c3] at hv; subst hv; exact a0
      | 1, hv => simp [c3] at hv; subst hv; exact a1
      | 2, hv => simp [c3] at hv; subst hv; exact a2
      | k + 3, hv => simp [c3] at hv
    · match k, hk with
      | 0, _ => exact b0
      | 1, _ => exact b1
      | 2, _ => exact b2
  have hrun := run_swap_cells (P := Tryz.prog) false 37 tE (by kernel_rfl) (fun _ => by kernel_rfl) g 0 N cap i j hi hj (c3 (atL L i)) (c3 (atL L j)) (by rw [sz]; rfl) (by rw [sz]; rfl) (c3_one _) (c3_one _) W (F i hi).1 (F j hj).1 (F i hi).2 (F j hj).2
  rw [sz, Nat.zero_add, Nat.zero_add] at hrun
  have hx : ∀ args W, (callFunc 119 args).run Tryz.prog W = ((Extern.ReflectliteSwapper.swap false args).run Tryz.prog W).andThen fun v w' => .ok (.value v) w' := fun args W => run_callFunc_extern Tryz.func119 (by kernel_rfl) (by kernel_rfl) (by kernel_rfl) (e := Extern.ReflectliteSwapper.swap false) (by kernel_rfl) args W
  refine ⟨(W.setCells g (i * 3) (c3 (atL L j))).setCells g (j * 3) (c3 (atL L i)), ?_, ?_, ?_⟩
  · rw [hx, show (#[Value.int .i64 (i : Int), Value.int .i64 (j : Int)] ++ #[Value.slice (some ⟨g, 0, none⟩) N cap, typeHandle Tryz.prog 37]) = #[.int .i64 i, .int .i64 j, .slice (some ⟨g, 0, none⟩) N cap, typeHandle Tryz.prog 37] from rfl, hrun]
    rfl
  · exact (hO.put (by omega) (atL L j)).put (by rw [List.length_set]; omega) (atL L i)
  · exact ((((((Grew.refl W _).store _).store _).store _).store _).store _).store _
theorem SAB.rises {L : List Val} {n : Nat} (h : SAB 0 n L) (hn : L.length = n) : Rises L := by
  refine List.pairwise_iff_getElem.2 fun i j hi hj hij => ?_
  have := h i j (Nat.zero_le _) hij (by omega)
  rw [atL_of (List.getElem?_eq_getElem hi), atL_of (List.getElem?_eq_getElem hj)] at this
  exact this
theorem rises_tiny {L : List Val} (h : L.length ≤ 1) : Rises L := (SAB.one (a := 0) (b := L.length) (by omega) L).rises rfl

theorem slicestable_any (base B : Nat) (xs : List Val) (v : Value) (w : World) (hl : xs.length ≤ 1048576) (hown : OwnV w base v xs) (hbox : w.cell? ⟨B, 0, none⟩ = some v) (hne : v.ownBlock ≠ some B) :
    Calls Tryz.prog 65 #[.iface 44 v, .func (.func 66) #[] #[.pointer (some ⟨B, 0, none⟩)]] w fun e w' => e = .returned (.tuple #[]) ∧ ∃ ys, OwnV w' base v ys ∧ Grew w w' v v ∧ ys.Perm xs ∧ Rises ys := by
  obtain ⟨aa, ca, rfl, _⟩ := ownV_slice hown
  by_cases h2 : xs.length ≤ 1
  · have hS : ∃ f : Nat, Calls Tryz.prog 65 #[.iface 44 (.slice aa xs.length ca), .func (.func 66) #[] #[.pointer (some ⟨B, 0, none⟩)]] w fun e w' => e = .returned (.tuple #[]) ∧ ∃ os, w' = grow w os := by
      by_cases h0 : xs.length = 0
      · refine ⟨111, ?_⟩
        have := Any.sort_SliceStable_tiny Tryz.stabL 44 37 tT tE (by kernel_rfl) (by kernel_rfl) (by kernel_rfl) (by kernel_rfl) 25 (fun _ => by kernel_rfl) aa xs.length ca h2 111 (by rw [h0]; kernel_rfl) (.func 66) #[] #[.pointer (some ⟨B, 0, none⟩)] w
        change Calls Tryz.prog 65 _ _ _ at this
        exact this
      · have h1 : xs.length = 1 := by omega
        refine ⟨112, ?_⟩
        have := Any.sort_SliceStable_tiny Tryz.stabL 44 37 tT tE (by kernel_rfl) (by kernel_rfl) (by kernel_rfl) (by kernel_rfl) 25 (fun _ => by kernel_rfl) aa xs.length ca h2 112 (by rw [h1]; kernel_rfl) (.func 66) #[] #[.pointer (some ⟨B, 0, none⟩)] w
        change Calls Tryz.prog 65 _ _ _ at this
        exact this
    obtain ⟨_, hS⟩ := hS
    refine hS.mono ?_
    rintro e w' ⟨rfl, os, rfl⟩
    have hb : Below w.heap.size w (grow w os) := below_regrown w w.drawn os
    exact ⟨rfl, xs, hown.later hb, Grew.of_below hb _, List.Perm.refl _, rises_tiny h2⟩
  · obtain ⟨g, cap, e⟩ : ∃ g cap, (Value.slice aa xs.length ca) = .slice (some ⟨g, 0, none⟩) xs.length cap := by
      rcases hown.2 with ⟨_, h0⟩ | ⟨g, cap, cur, ev, _⟩
      · omega
      · exact ⟨g, cap, ev⟩
    injection e with e1 _ e3
    subst e1 e3
    have hgB : B ≠ g := fun e => hne (by rw [e]; rfl)
    refine Any.sort_SliceStable_of_stable Tryz.stabL 44 37 tT tE (by kernel_rfl) (by kernel_rfl) (by kernel_rfl) (by kernel_rfl) 25 (fun _ => by kernel_rfl) (some ⟨g, 0, none⟩) xs.length ca (by omega) 119 (by rw [tK _ (by omega)]; kernel_rfl) (.func 66) #[] #[.pointer (some ⟨B, 0, none⟩)] w (fun w' => ∃ ys, OwnV w' base (.slice (some ⟨g, 0, none⟩) xs.length ca) ys ∧ Grew w w' (.slice (some ⟨g, 0, none⟩) xs.length ca) (.slice (some ⟨g, 0, none⟩) xs.length ca) ∧ ys.Perm xs ∧ Rises ys) ?_
    have hB : sliceBound Tryz.prog 37 tE 25 (some ⟨g, 0, none⟩) xs.length ca = #[.slice (some ⟨g, 0, none⟩) xs.length ca, typeHandle Tryz.prog 37] := by
      unfold sliceBound; rw [if_neg (by rw [tK _ (by omega)]; omega)]
    rw [hB]
    have core : ∀ W0, Below w.heap.size w W0 → Calls Tryz.prog 96 #[.agg #[.func (.func 66) #[] #[.pointer (some ⟨B, 0, none⟩)], .func (.func 119) #[] #[.slice (some ⟨g, 0, none⟩) xs.length ca, typeHandle Tryz.prog 37]], .int .i64 xs.length] W0 fun e w' => e = .returned (.tuple #[]) ∧ ∃ ys, OwnV w' base (.slice (some ⟨g, 0, none⟩) xs.length ca) ys ∧ Grew w w' (.slice (some ⟨g, 0, none⟩) xs.length ca) (.slice (some ⟨g, 0, none⟩) xs.length ca) ∧ ys.Perm xs ∧ Rises ys := fun W0 hbw => by
      have hT : Sorting.OK ⟨base, g, xs.length, ca, B, 119, #[.slice (some ⟨g, 0, none⟩) xs.length ca, typeHandle Tryz.prog 37]⟩ W0 :=
        ⟨cell_later hbw hbox, hgB, hl, fun W L i j h1 h2 h3 => swapOK base g xs.length ca W L i j h1 h2 h3⟩
      refine (stable_any _ _ xs hT (hown.later hbw)).mono ?_
      rintro e w' ⟨rfl, ys, o1, o2, o3, o4⟩
      exact ⟨rfl, ys, o1, (Grew.of_below hbw _).trans o2, o3, o4.rises o3.length_eq⟩
    refine core _ ?_
    unfold stableWorld
    exact below_alloc (below_alloc (Below.refl _ w) _) _
end Go.Proofs.YtljebbodcehmpabGreat
