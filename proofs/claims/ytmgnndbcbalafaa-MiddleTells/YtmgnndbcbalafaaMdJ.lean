import Derived.Test.YtmgnndbcbalafaaMdI
set_option linter.unusedSimpArgs false
set_option linter.unusedVariables false
namespace Go.Proofs.Ytmgnndbcbalafaa
open Go.RowKit Go.Sort

theorem Try.size2 : (Try.prog.info? 2).map (·.size) = some 1 := by
  obtain ⟨i2, hi2, z20, z21, z22⟩ := info_parts Try.info2
  rw [hi2]; simp [z21]

set_option maxHeartbeats 1000000 in
set_option maxRecDepth 100000 in
theorem ins_in (w : World) (g n cap p vb : Nat) (cur : Array Value) (zs : List Int) (x : Int) (hn : zs.length = n) (hp : p < n) (hl : n ≤ 1000000) (hr : n + 1 ≤ cap) (h63 : cap ≤ maxLen) (hg : w.heap[g]? = some (.cells cur 2 (0, 0))) (hc : cur.size = cap) (ht : cur.toList.take n = ints zs)
    (hv : w.heap[vb]? = some (.cells #[.int .i64 x] 2 (0, 0))) (hvb : vb ≠ g) :
    Calls Try.prog 11 #[.slice (some ⟨g, 0, none⟩) n cap, .int .i64 p, .slice (some ⟨vb, 0, none⟩) 1 1] w fun e w' => InsA w (.slice (some ⟨g, 0, none⟩) n cap) zs p x e w' := by
  have hov : ∀ lb cb, (callFunc 19 #[.slice (some ⟨vb, 0, none⟩) 1 1, .slice (some ⟨g, p + 1, none⟩) lb cb]).run Try.prog w = .ok (.value (.bool false)) w := fun lb cb => by
    rw [run_callFunc_extern Try.func19 (by kernel_rfl) (by kernel_rfl) (by kernel_rfl) (e := Extern.SlicesOverlaps.overlaps #[23, 23] #[4]) (by kernel_rfl),
      Lib.run_overlaps_apart w 23 4 2 Try.underlying23 1 (by intro w'; obtain ⟨i2, hi2, z20, z21, z22⟩ := info_parts Try.info2; simp [Go.sizeOf, typeInfo, hi2, z21]) ⟨vb, 0, none⟩ ⟨g, p + 1, none⟩ 1 1 lb cb hvb 2 2 1 cap (by simp [World.shape?, hv]) (by simp [World.shape?, hg, hc]) (by omega) (by simp [World.frozen?, hv]) (by simp [World.frozen?, hv])]
    rfl
  obtain ⟨D, hD⟩ : ∃ D, ints (zs.drop p) = D := ⟨_, rfl⟩
  have hDl : D.length = n - p := by rw [← hD, ints_len, List.length_drop, hn]
  have hLl : n + 1 ≤ cur.toList.length := by rw [Array.length_toList, hc]; exact hr
  have hDt : D = (cur.toList.drop p).take (n - p) := by
    rw [← hD, ints_drop, ← ht, List.drop_take]
  have hD1 : ∀ u ∈ D, u.oneCell' = true := by rw [← hD]; exact ints_one _
  have hDc : ∀ (W : World), W.heap[g]? = some (.cells cur 2 (0, 0)) → ∀ j v, D[j]? = some v → W.cell? ((⟨g, p, none⟩ : Addr).add j) = some v := fun W hW j v hj => by
    rw [Addr.add_lit]
    rw [hDt, List.getElem?_take] at hj
    split at hj
    · rw [List.getElem?_drop] at hj
      simp [World.cell?, hW]
      simpa using hj
    · cases hj
  obtain ⟨R1, hR1⟩ : ∃ R1, (cur.toList.take (p + 1) ++ D ++ cur.toList.drop (p + 1 + D.length)).toArray = R1 := ⟨_, rfl⟩
  obtain ⟨R2, hR2⟩ : ∃ R2, (R1.toList.take p ++ [Value.int .i64 x] ++ R1.toList.drop (p + [Value.int .i64 x].length)).toArray = R2 := ⟨_, rfl⟩
  have hcl : cur.toList.length = cap := by rw [Array.length_toList, hc]
  have hR1s : R1.size = cap := by rw [← hR1]; simp only [List.size_toArray, List.length_append, List.length_take, List.length_drop, hDl, hcl]; omega
  have hR2s : R2.size = cap := by rw [← hR2]; simp only [List.size_toArray, List.length_append, List.length_take, List.length_drop, Array.length_toList, hR1s, List.length_cons, List.length_nil]; omega
  have hfin : R2.toList.take (n + 1) = ints (zs.take p ++ x :: zs.drop p) := by
    have := ins_room (L := cur.toList) (D := D) (x := .int .i64 x) (p := p) (n := n) (by omega) hLl hDt
    rw [← hR2, ← hR1]
    simp only [List.toList_toArray] at this ⊢
    rw [this, ints_app, ← hD, ints_take, ← ht, List.take_take, Nat.min_eq_left (by omega)]
    rfl
  have hcp1 : ∀ ty dc sc, (Builtin.copy_ #[23, 23] ty #[.slice (some ⟨g, p + 1, none⟩) (n - p) dc, .slice (some ⟨g, p, none⟩) (n + 1 - p) sc]).run Try.prog w.drew = .ok (goInt D.length) (w.drew.setRow g R1) := fun ty dc sc => by
    rw [← hR1]
    exact run_copy_row Try.prog w.drew 23 23 ty 2 g (p + 1) (n - p) dc ⟨g, p, none⟩ (n + 1 - p) sc cur 2 D Try.underlying23 Try.size2 hg (by rw [hDl]; simp only [Nat.min_def]; split <;> omega) (hDc w.drew hg) (by rw [hDl, hc]; omega) hD1
  obtain ⟨W1, hW1⟩ : ∃ W1, w.drew.setRow g R1 = W1 := ⟨_, rfl⟩
  have hg1 : W1.heap[g]? = some (.cells R1 2 (0, 0)) := by rw [← hW1]; exact setRow_heap w.drew g cur R1 2 (0, 0) hg
  have hv1 : W1.heap[vb]? = some (.cells #[.int .i64 x] 2 (0, 0)) := by rw [← hW1]; exact (setRow_other w.drew g vb R1 hvb).trans hv
  have hcp2 : ∀ ty dc, (Builtin.copy_ #[23, 23] ty #[.slice (some ⟨g, p, none⟩) (n + 1 - p) dc, .slice (some ⟨vb, 0, none⟩) 1 1]).run Try.prog W1 = .ok (goInt 1) (W1.setRow g R2) := fun ty dc => by
    rw [← hR2]
    exact run_copy_row Try.prog W1 23 23 ty 2 g p (n + 1 - p) dc ⟨vb, 0, none⟩ 1 1 R1 2 [.int .i64 x] Try.underlying23 Try.size2 hg1 (by simp only [Nat.min_def, List.length_cons, List.length_nil]; split <;> omega) (fun j v hj => by
      match j, hj with
      | 0, hj => simp at hj; subst hj; simp [World.cell?, Addr.add_lit, hv1]
      | j + 1, hj => simp at hj) (by simp [hR1s]; omega) (by intro u hu; simp at hu; subst hu; rfl)
  have HF : Hid (InsA w (.slice (some ⟨g, 0, none⟩) n cap) zs p x (.returned (.slice (some ⟨g, 0, none⟩) (n + 1) cap)) (W1.setRow g R2)) := by
    refine ⟨some ⟨g, 0, none⟩, cap, by rw [hn], ?_, ?_, .inl rfl⟩
    · rw [hn]
      exact own_of_row (setRow_heap W1 g R1 R2 2 (0, 0) hg1) hR2s hr h63 (by simp [hn]; omega) hfin
    · rw [← hW1]
      refine ⟨rfl, rfl, rfl, by simp [World.setRow], fun k hk hne => ?_⟩
      have hne' : k ≠ g := fun e => hne (by rw [e]; rfl)
      rw [setRow_other _ _ _ _ hne', setRow_other _ _ _ _ hne']; rfl
  rw [hW1] at hcp1
  have hz2 : ¬ ((p : Int) = (n : Int)) := by omega
  have hw1 : IntKind.i64.wrap ((p : Int) + 1) = (p : Int) + 1 := by rw [IntKind.wrap_i64]; omega
  have hb1 : (0 : Int) ≤ (p : Int) + 1 := by omega
  have htn : ((p : Int) + 1).toNat = p + 1 := by omega
  have hb6 : (p : Int) ≤ (n : Int) + 1 := by omega
  have hsub : n + 1 - (p + 1) = n - p := by omega
  have hb3 : (n : Int) + 1 ≤ (cap : Int) := by omega
  have hb2 : ¬ (cap = p + 1) := by omega
  have hb4 : ¬ (cap = p) := by omega
  have hb5 : (p : Int) ≤ (n : Int) := by omega
  have h63' : (cap : Int) ≤ 9223372036854775807 := by unfold maxLen at h63; omega
  clear hDl hLl hDt hD1 hDc hR1 hR2 hR1s hR2s hfin hW1 hg1 hv1 hg hv hc ht hD
  go_enter Try.func11, Try.ntmps11
  go_wp2_with (simp only [hov])
  go_region_law (refine step_copy_runI rfl _ _ 23 23 rfl (.slice (some ⟨g, p + 1, none⟩) (n - p) (cap - (p + 1))) (.slice (some ⟨g, p, none⟩) (n + 1 - p) (cap - p)) (by simp [Act.eval, Act.put]) (by simp [Act.eval, Act.put]) (hcp1 _ _ _) ?_)
  all_goals
    go_wp2_with (at_builtin; refine wpList_copy_runI _ rfl _ _ 23 23 rfl _ _ rfl rfl (hcp2 _ _) ?_)
    go_ret
    exact unhide HF

set_option maxHeartbeats 1000000 in
set_option maxRecDepth 100000 in
theorem ins_new (w : World) (g n cap p vb : Nat) (cur : Array Value) (zs : List Int) (x : Int) (hn : zs.length = n) (hp : p < n) (hl : n ≤ 1000000) (hnc : n ≤ cap) (hr : cap < n + 1) (h63 : cap ≤ maxLen) (hg : w.heap[g]? = some (.cells cur 2 (0, 0))) (hc : cur.size = cap) (ht : cur.toList.take n = ints zs)
    (hv : w.heap[vb]? = some (.cells #[.int .i64 x] 2 (0, 0))) :
    Calls Try.prog 11 #[.slice (some ⟨g, 0, none⟩) n cap, .int .i64 p, .slice (some ⟨vb, 0, none⟩) 1 1] w fun e w' => InsA w (.slice (some ⟨g, 0, none⟩) n cap) zs p x e w' := by
  obtain ⟨i2, hi2, z20, z21, z22⟩ := info_parts Try.info2
  have hgl : g < w.heap.size := (Array.getElem?_eq_some_iff.1 hg).1
  have hvl : vb < w.heap.size := (Array.getElem?_eq_some_iff.1 hv).1
  obtain ⟨D, hD⟩ : ∃ D, ints (zs.drop p) = D := ⟨_, rfl⟩
  have hDl : D.length = n - p := by rw [← hD, ints_len, List.length_drop, hn]
  have hcells : ∀ (W : World), W.heap[g]? = some (.cells cur 2 (0, 0)) → ∀ j v, (ints zs)[j]? = some v → W.cell? ⟨g, j, none⟩ = some v := fun W hW j v hj => by
    rw [← ht, List.getElem?_take] at hj
    split at hj
    · simp [World.cell?, hW]
      simpa using hj
    · cases hj
  have hD1 : ∀ u ∈ D, u.oneCell' = true := by rw [← hD]; exact ints_one _
  have hDc : ∀ (W : World), W.heap[g]? = some (.cells cur 2 (0, 0)) → ∀ j v, D[j]? = some v → W.cell? ((⟨g, p, none⟩ : Addr).add j) = some v := fun W hW j v hj => by
    rw [Addr.add_lit]
    rw [← hD, ints_drop, List.getElem?_drop] at hj
    exact hcells W hW _ v hj
  have hold : (Builtin.firstCells i2.size p (.slice (some ⟨g, 0, none⟩) p cap)).run Try.prog w.drew = .ok (ints (zs.take p)).toArray w.drew := by
    rw [z21]
    exact run_firstCells_some w.drew 1 p ⟨g, 0, none⟩ p cap (ints (zs.take p)) (by rw [ints_len, List.length_take]; omega) (fun j v hj => by
      rw [Addr.add_lit, Nat.zero_add]
      refine hcells w.drew hg j v ?_
      rw [ints_take, List.getElem?_take] at hj
      split at hj
      · exact hj
      · cases hj)
  obtain ⟨G, hG⟩ : ∃ G, grownCap w (n + 1) cap 2 = G := ⟨_, rfl⟩
  have hGn : n + 1 ≤ G := by rw [← hG]; exact grownCap_ge w _ _ _
  have hG63 : G ≤ maxLen := by rw [← hG]; exact grownCap_le_maxLen w (n + 1) cap 2 (by unfold maxLen; omega)
  obtain ⟨Z, hZ⟩ : ∃ Z : Array Value, Builtin.zeroCells (Value.int .i64 0).cells (n + 1 - p) ++ Builtin.zeroCells (Value.int .i64 0).cells (G - (n + 1)) = Z := ⟨_, rfl⟩
  have hZs : Z.size = G - p := by rw [← hZ]; simp [Builtin.zeroCells, Value.cells]; omega
  obtain ⟨A, hA⟩ : ∃ A, ints (zs.take p) = A := ⟨_, rfl⟩
  have hAl : A.length = p := by rw [← hA, ints_len, List.length_take]; omega
  obtain ⟨R0, hR0⟩ : ∃ R0, (A ++ Z.toList).toArray = R0 := ⟨_, rfl⟩
  have hR0s : R0.size = G := by rw [← hR0]; simp [hAl, hZs]; omega
  have hkk : (n : Int) + 1 - (p : Int) = ((n + 1 - p : Nat) : Int) := by omega
  have hrz : ∀ ty, (Builtin.append_ #[23, 3] ty #[.slice (some ⟨g, 0, none⟩) p cap, .int .i64 ((n : Int) + 1 - (p : Int))]).run Try.prog w = .ok (.slice (some ⟨w.heap.size, 0, none⟩) (n + 1) G) (w.drew.alloc (.cells R0 2)) := fun ty => by
    have h := Lib.run_append_grow_zeros w 23 3 ty 2 i2 (.int .i64 0) .i64 .i64 Try.underlying23 Try.underlying3 hi2 z20 (some ⟨g, 0, none⟩) p cap (ints (zs.take p)) hold (n + 1 - p) (by omega) (by omega) (by omega) (by omega) (by rw [z22]; omega) (by rw [z22, show p + (n + 1 - p) = n + 1 by omega]; exact growslice_fits hr (by omega))
    rw [show p + (n + 1 - p) = n + 1 by omega, hG] at h
    rw [hkk, h, ← hR0, ← hA, ← hZ]
    congr 4
    simp [Array.append_assoc]
  obtain ⟨W0, hW0⟩ : ∃ W0, w.drew.alloc (.cells R0 2) = W0 := ⟨_, rfl⟩
  rw [hW0] at hrz
  have hH0 : W0.heap[w.heap.size]? = some (.cells R0 2 (0, 0)) := by
    rw [← hW0]
    show (w.heap.push (Obj.cells R0 2))[w.heap.size]? = _
    rw [Array.getElem?_push_size]
  have hlow : ∀ k, k < w.heap.size → W0.heap[k]? = w.heap[k]? := fun k hk => by
    rw [← hW0]; exact (below_alloc (Below.refl _ w).drew (.cells R0 2)).block k hk
  obtain ⟨R1, hR1⟩ : ∃ R1, (R0.toList.take p ++ [Value.int .i64 x] ++ R0.toList.drop (p + [Value.int .i64 x].length)).toArray = R1 := ⟨_, rfl⟩
  have hR1s : R1.size = G := by rw [← hR1]; simp only [List.size_toArray, List.length_append, List.length_take, List.length_drop, Array.length_toList, hR0s, List.length_cons, List.length_nil]; omega
  obtain ⟨R2, hR2⟩ : ∃ R2, (R1.toList.take (p + 1) ++ D ++ R1.toList.drop (p + 1 + D.length)).toArray = R2 := ⟨_, rfl⟩
  have hR2s : R2.size = G := by rw [← hR2]; simp only [List.size_toArray, List.length_append, List.length_take, List.length_drop, Array.length_toList, hR1s, hDl]; omega
  have hfin : R2.toList.take (n + 1) = ints (zs.take p ++ x :: zs.drop p) := by
    have := ins_grow (A := A) (Z := Z.toList) (D := D) (x := .int .i64 x) (p := p) (n := n) (by omega) hAl (by simp [hAl, hZs]; omega) hDl
    rw [← hR2, ← hR1, ← hR0]
    simp only [List.toList_toArray] at this ⊢
    rw [this, ints_app, ← hD, ← hA]
    rfl
  have hcp1 : ∀ ty dc, (Builtin.copy_ #[23, 23] ty #[.slice (some ⟨w.heap.size, p, none⟩) (n + 1 - p) dc, .slice (some ⟨vb, 0, none⟩) 1 1]).run Try.prog W0 = .ok (goInt 1) (W0.setRow w.heap.size R1) := fun ty dc => by
    rw [← hR1]
    exact run_copy_row Try.prog W0 23 23 ty 2 w.heap.size p (n + 1 - p) dc ⟨vb, 0, none⟩ 1 1 R0 2 [.int .i64 x] Try.underlying23 Try.size2 hH0 (by simp only [Nat.min_def, List.length_cons, List.length_nil]; split <;> omega) (fun j v hj => by
      match j, hj with
      | 0, hj => simp at hj; subst hj; simp [World.cell?, Addr.add_lit, hlow vb hvl, hv]
      | j + 1, hj => simp at hj) (by simp [hR0s]; omega) (by intro u hu; simp at hu; subst hu; rfl)
  obtain ⟨W1, hW1⟩ : ∃ W1, W0.setRow w.heap.size R1 = W1 := ⟨_, rfl⟩
  rw [hW1] at hcp1
  have hH1 : W1.heap[w.heap.size]? = some (.cells R1 2 (0, 0)) := by rw [← hW1]; exact setRow_heap W0 _ R0 R1 2 (0, 0) hH0
  have hlow1 : ∀ k, k < w.heap.size → W1.heap[k]? = w.heap[k]? := fun k hk => by rw [← hW1, setRow_other _ _ _ _ (by omega)]; exact hlow k hk
  have hcp2 : ∀ ty dc sc, (Builtin.copy_ #[23, 23] ty #[.slice (some ⟨w.heap.size, p + 1, none⟩) (n - p) dc, .slice (some ⟨g, p, none⟩) (n - p) sc]).run Try.prog W1.drew = .ok (goInt D.length) (W1.drew.setRow w.heap.size R2) := fun ty dc sc => by
    rw [← hR2]
    exact run_copy_row Try.prog W1.drew 23 23 ty 2 w.heap.size (p + 1) (n - p) dc ⟨g, p, none⟩ (n - p) sc R1 2 D Try.underlying23 Try.size2 hH1 (by rw [hDl]; simp only [Nat.min_def]; split <;> omega) (hDc W1.drew (by show W1.heap[g]? = _; rw [hlow1 g hgl]; exact hg)) (by rw [hDl, hR1s]; omega) hD1
  have HF : Hid (InsA w (.slice (some ⟨g, 0, none⟩) n cap) zs p x (.returned (.slice (some ⟨w.heap.size, 0, none⟩) (n + 1) G)) (W1.drew.setRow w.heap.size R2)) := by
    refine ⟨some ⟨w.heap.size, 0, none⟩, G, by rw [hn], ?_, ?_, .inr ⟨w.heap.size, rfl, Nat.le_refl _⟩⟩
    · rw [hn]
      exact own_of_row (setRow_heap W1.drew _ R1 R2 2 (0, 0) hH1) hR2s hGn hG63 (by simp [hn]; omega) hfin
    · refine ⟨by rw [← hW1, ← hW0]; rfl, by rw [← hW1, ← hW0]; rfl, by rw [← hW1, ← hW0]; rfl, by rw [← hW1, ← hW0]; simp [World.setRow, World.alloc], fun k hk hne => ?_⟩
      rw [setRow_other _ _ _ _ (by omega)]; exact hlow1 k hk
  have hz2 : ¬ ((p : Int) = (n : Int)) := by omega
  have hw1 : IntKind.i64.wrap ((p : Int) + 1) = (p : Int) + 1 := by rw [IntKind.wrap_i64]; omega
  have hb1 : (0 : Int) ≤ (p : Int) + 1 := by omega
  have htn : ((p : Int) + 1).toNat = p + 1 := by omega
  have hb6 : (p : Int) ≤ (n : Int) + 1 := by omega
  have hsub : n + 1 - (p + 1) = n - p := by omega
  have hb3 : (cap : Int) < (n : Int) + 1 := by omega
  have hb2 : ¬ (G = p + 1) := by omega
  have hb4 : ¬ (cap = p) := by omega
  have hb7 : ¬ (G = p) := by omega
  have hb5 : (p : Int) ≤ (n : Int) := by omega
  have hG63' : (G : Int) ≤ 9223372036854775807 := by unfold maxLen at hG63; omega
  have hGn' : (n : Int) + 1 ≤ (G : Int) := by omega
  have hnc' : (n : Int) ≤ (cap : Int) := by omega
  clear hDl hD1 hDc hR0 hR1 hR2 hR0s hR1s hR2s hfin hW0 hW1 hH0 hH1 hg hv hc ht hD hcells hold hZ hZs hA hAl hlow hlow1 hkk hG hGn hG63 hr hnc
  go_enter Try.func11, Try.ntmps11
  go_wp2_with (first
    | (at_builtin; refine Lib.wpList_append_run _ rfl _ _ _ _ rfl _ _ rfl rfl _ _ (hrz _) ?_)
    | (at_builtin; refine wpList_copy_runI _ rfl _ _ 23 23 rfl _ _ rfl rfl (hcp1 _ _) ?_))
  go_region_law (refine step_copy_runI rfl _ _ 23 23 rfl (.slice (some ⟨w.heap.size, p + 1, none⟩) (n - p) (G - (p + 1))) (.slice (some ⟨g, p, none⟩) (n - p) (cap - p)) (by simp [Act.eval, Act.put]) (by simp [Act.eval, Act.put]) (hcp2 _ _ _) ?_)
  all_goals
    go_wp2
    go_ret
    exact unhide HF

/-- Insert. -/
theorem ins_any (w : World) (s : Value) (zs : List Int) (p : Nat) (x : Int) (vb : Nat) (ho : w.ownsRow 0 2 1 s zs.length (ints zs)) (hp : p ≤ zs.length) (hl : zs.length ≤ 1000000) (hv : w.heap[vb]? = some (.cells #[.int .i64 x] 2 (0, 0))) (hvb : s.ownBlock ≠ some vb) :
    Calls Try.prog 11 #[s, .int .i64 p, .slice (some ⟨vb, 0, none⟩) 1 1] w fun e w' => InsA w s zs p x e w' := by
  by_cases e : p = zs.length
  · subst e; exact ins_end w s zs x vb ho hl hv
  · rcases ho.2 with ⟨rfl, h0⟩ | ⟨g, cap, cur, rfl, _, hh, h3, h4, h5, h6⟩
    · omega
    · rw [Nat.mul_one] at h5 h6
      by_cases hr : zs.length + 1 ≤ cap
      · exact ins_in w g zs.length cap p vb cur zs x rfl (by omega) hl hr h4 hh h5 h6 hv (fun e => hvb (by rw [e]; rfl))
      · exact ins_new w g zs.length cap p vb cur zs x rfl (by omega) hl h3 (by omega) h4 hh h5 h6 hv
end Go.Proofs.Ytmgnndbcbalafaa
