import Derived.Test.YtcbenpodohjbiaaGreatSqT
import Derived.Shelf.Spec.SlicesInsertGrow
import Derived.Laws.CopyRow
import Derived.Laws.CopyOwn
set_option linter.unusedSimpArgs false
set_option linter.unusedVariables false
namespace Go.Proofs.YtcbenpodohjbiaaGreat
open Go.RowKit Go.Sort

def intsZ (zs : List Int) : List Value := zs.map (Value.int .i64)
theorem intsZ_app (a b : List Int) : intsZ (a ++ b) = intsZ a ++ intsZ b := by simp [intsZ]
theorem intsZ_len (a : List Int) : (intsZ a).length = a.length := by simp [intsZ]
theorem own_of_row {w : World} {g n cap : Nat} {cur : Array Value} {ys : List Int} (h : w.heap[g]? = some (.cells cur 3 (0, 0))) (hc : cur.size = cap) (hn : n ≤ cap) (h63 : cap ≤ maxLen) (hy : ys.length = n) (ht : cur.toList.take n = intsZ ys) :
    w.ownsRow 0 3 1 (.slice (some ⟨g, 0, none⟩) n cap) n (intsZ ys) :=
  ⟨by rw [intsZ_len, hy, Nat.mul_one], .inr ⟨g, cap, cur, rfl, Nat.zero_le _, h, hn, h63, by rw [hc, Nat.mul_one], by rw [Nat.mul_one, ht]⟩⟩
/-- First a hole of one place, then the number. -/
theorem ins_room {L D : List Value} {x : Value} {p n : Nat} (hp : p ≤ n) (hL : n + 1 ≤ L.length) (hD : D = (L.drop p).take (n - p)) :
    (((L.take (p + 1) ++ D ++ L.drop (p + 1 + D.length)).take p ++ [x] ++ (L.take (p + 1) ++ D ++ L.drop (p + 1 + D.length)).drop (p + [x].length)).take (n + 1)) = L.take p ++ x :: D := by
  have hd : D.length = n - p := by rw [hD, List.length_take, List.length_drop]; omega
  have h1 : (L.take (p + 1)).length = p + 1 := by rw [List.length_take]; omega
  have e1 : (L.take (p + 1) ++ D ++ L.drop (p + 1 + D.length)).take p = L.take p := by
    rw [List.append_assoc, List.take_append_of_le_length (by omega), List.take_take, Nat.min_eq_left (by omega)]
  have e2 : (L.take (p + 1) ++ D ++ L.drop (p + 1 + D.length)).drop (p + [x].length) = D ++ L.drop (p + 1 + D.length) := by
    rw [List.append_assoc, show p + [x].length = (L.take (p + 1)).length by rw [h1]; rfl, List.drop_left']
    rfl
  rw [e1, e2]
  have h2 : (L.take p).length = p := by rw [List.length_take]; omega
  rw [show L.take p ++ [x] ++ (D ++ L.drop (p + 1 + D.length)) = (L.take p ++ x :: D) ++ L.drop (p + 1 + D.length) by simp, List.take_append_of_le_length (by simp [h2, hd]; omega), List.take_of_length_le (by simp [h2, hd]; omega)]
theorem intsZ_drop (zs : List Int) (p : Nat) : intsZ (zs.drop p) = (intsZ zs).drop p := by simp [intsZ]
theorem intsZ_take (zs : List Int) (p : Nat) : intsZ (zs.take p) = (intsZ zs).take p := by simp [intsZ]
theorem intsZ_one (zs : List Int) : ∀ u ∈ intsZ zs, u.oneCell' = true := by
  intro u hu; simp only [intsZ, List.mem_map] at hu; obtain ⟨x, _, rfl⟩ := hu; rfl
/-- What Insert answers. -/
def InsA (w : World) (s : Value) (zs : List Int) (p : Nat) (x : Int) (e : Ending) (w' : World) : Prop :=
  ∃ a5 c5, e = .returned (.slice a5 (zs.length + 1) c5) ∧ w'.ownsRow 0 3 1 (.slice a5 (zs.length + 1) c5) (zs.length + 1) (intsZ (zs.take p ++ x :: zs.drop p)) ∧ w.grownBy w' s.ownBlock ∧ ((Value.slice a5 (zs.length + 1) c5).ownBlock = s.ownBlock ∨ ∃ k, (Value.slice a5 (zs.length + 1) c5).ownBlock = some k ∧ w.heap.size ≤ k)

theorem Tryz.size3 : (Tryz.prog.info? 3).map (·.size) = some 1 := by
  obtain ⟨i2, hi2, z20, z21, z22⟩ := info_parts info3n
  rw [hi2]; simp [z21]
set_option maxHeartbeats 1000000 in
set_option maxRecDepth 100000 in
theorem ins_in (w : World) (g n cap p vb : Nat) (cur : Array Value) (zs : List Int) (x : Int) (hn : zs.length = n) (hp : p < n) (hl : n ≤ 1000000) (hr : n + 1 ≤ cap) (h63 : cap ≤ maxLen) (hg : w.heap[g]? = some (.cells cur 3 (0, 0))) (hc : cur.size = cap) (ht : cur.toList.take n = intsZ zs)
    (hv : w.heap[vb]? = some (.cells #[.int .i64 x] 3 (0, 0))) (hvb : vb ≠ g) :
    Calls Tryz.prog 63 #[.slice (some ⟨g, 0, none⟩) n cap, .int .i64 p, .slice (some ⟨vb, 0, none⟩) 1 1] w fun e w' => InsA w (.slice (some ⟨g, 0, none⟩) n cap) zs p x e w' := by
  have hov : ∀ lb cb, (callFunc 97 #[.slice (some ⟨vb, 0, none⟩) 1 1, .slice (some ⟨g, p + 1, none⟩) lb cb]).run Tryz.prog w = .ok (.value (.bool false)) w := fun lb cb => by
    rw [run_callFunc_extern Tryz.func97 (by kernel_rfl) (by kernel_rfl) (by kernel_rfl) (e := Extern.SlicesOverlaps.overlaps #[59, 59] #[4]) (by kernel_rfl),
      Lib.run_overlaps_apart w 59 4 3 Tryz.underlying59 1 (by intro w'; obtain ⟨i2, hi2, z20, z21, z22⟩ := info_parts info3n; simp [Go.sizeOf, typeInfo, hi2, z21]) ⟨vb, 0, none⟩ ⟨g, p + 1, none⟩ 1 1 lb cb hvb 3 3 1 cap (by simp [World.shape?, hv]) (by simp [World.shape?, hg, hc]) (by omega) (by simp [World.frozen?, hv]) (by simp [World.frozen?, hv])]
    rfl
  obtain ⟨D, hD⟩ : ∃ D, intsZ (zs.drop p) = D := ⟨_, rfl⟩
  have hDl : D.length = n - p := by rw [← hD, intsZ_len, List.length_drop, hn]
  have hLl : n + 1 ≤ cur.toList.length := by rw [Array.length_toList, hc]; exact hr
  have hDt : D = (cur.toList.drop p).take (n - p) := by
    rw [← hD, intsZ_drop, ← ht, List.drop_take]
  have hD1 : ∀ u ∈ D, u.oneCell' = true := by rw [← hD]; exact intsZ_one _
  have hDc : ∀ (W : World), W.heap[g]? = some (.cells cur 3 (0, 0)) → ∀ j v, D[j]? = some v → W.cell? ((⟨g, p, none⟩ : Addr).add j) = some v := fun W hW j v hj => by
    rw [Addr.add_lit]
    rw [hDt, List.getElem?_take] at hj
    split at hj
    · rw [List.getElem?_drop] at hj
      simp [World.cell?, hW]
      simpa using hj
    · cases hj
  obtain ⟨R1, hR1⟩ : ∃ R1, (cur.toList.take (p + 1) ++ D ++ cur.toList.drop (p + 1 + D.length)).toArray = R1 := ⟨_, rfl⟩
  obtain ⟨R2, hR2⟩ : ∃ R2, (R1.toList.take p ++ [Value.int .i64 x] ++ R1.toList.drop (p + [Value.int .i64 x].length)).toArray = R2 := ⟨_, rfl⟩
  have hcl : cur.toList.length = cap := by rw [Array.length_toList, hc]
  have hR1s : R1.size = cap := by rw [← hR1]; simp only [List.size_toArray, List.length_append, List.length_take, List.length_drop, hDl, hcl]; omega
  have hR2s : R2.size = cap := by rw [← hR2]; simp only [List.size_toArray, List.length_append, List.length_take, List.length_drop, Array.length_toList, hR1s, List.length_cons, List.length_nil]; omega
  have hfin : R2.toList.take (n + 1) = intsZ (zs.take p ++ x :: zs.drop p) := by
    have := ins_room (L := cur.toList) (D := D) (x := .int .i64 x) (p := p) (n := n) (by omega) hLl hDt
    rw [← hR2, ← hR1]
    simp only [List.toList_toArray] at this ⊢
    rw [this, intsZ_app, ← hD, intsZ_take, ← ht, List.take_take, Nat.min_eq_left (by omega)]
    rfl
  have hcp1 : ∀ ty dc sc, (Builtin.copy_ #[59, 59] ty #[.slice (some ⟨g, p + 1, none⟩) (n - p) dc, .slice (some ⟨g, p, none⟩) (n + 1 - p) sc]).run Tryz.prog w.drew = .ok (goInt D.length) (w.drew.setRow g R1) := fun ty dc sc => by
    rw [← hR1]
    exact run_copy_row Tryz.prog w.drew 59 59 ty 3 g (p + 1) (n - p) dc ⟨g, p, none⟩ (n + 1 - p) sc cur 3 D Tryz.underlying59 Tryz.size3 hg (by rw [hDl]; simp only [Nat.min_def]; split <;> omega) (hDc w.drew hg) (by rw [hDl, hc]; omega) hD1
  obtain ⟨W1, hW1⟩ : ∃ W1, w.drew.setRow g R1 = W1 := ⟨_, rfl⟩
  have hg1 : W1.heap[g]? = some (.cells R1 3 (0, 0)) := by rw [← hW1]; exact setRow_heap w.drew g cur R1 3 (0, 0) hg
  have hv1 : W1.heap[vb]? = some (.cells #[.int .i64 x] 3 (0, 0)) := by rw [← hW1]; exact (setRow_other w.drew g vb R1 hvb).trans hv
  have hcp2 : ∀ ty dc, (Builtin.copy_ #[59, 59] ty #[.slice (some ⟨g, p, none⟩) (n + 1 - p) dc, .slice (some ⟨vb, 0, none⟩) 1 1]).run Tryz.prog W1 = .ok (goInt 1) (W1.setRow g R2) := fun ty dc => by
    rw [← hR2]
    exact run_copy_row Tryz.prog W1 59 59 ty 3 g p (n + 1 - p) dc ⟨vb, 0, none⟩ 1 1 R1 3 [.int .i64 x] Tryz.underlying59 Tryz.size3 hg1 (by simp only [Nat.min_def, List.length_cons, List.length_nil]; split <;> omega) (fun j v hj => by
      match j, hj with
      | 0, hj => simp at hj; subst hj; simp [World.cell?, Addr.add_lit, hv1]
      | j + 1, hj => simp at hj) (by simp [hR1s]; omega) (by intro u hu; simp at hu; subst hu; rfl)
  have HF : Hid (InsA w (.slice (some ⟨g, 0, none⟩) n cap) zs p x (.returned (.slice (some ⟨g, 0, none⟩) (n + 1) cap)) (W1.setRow g R2)) := by
    refine ⟨some ⟨g, 0, none⟩, cap, by rw [hn], ?_, ?_, .inl rfl⟩
    · rw [hn]
      exact own_of_row (setRow_heap W1 g R1 R2 3 (0, 0) hg1) hR2s hr h63 (by simp [hn]; omega) hfin
    · rw [← hW1]
      refine ⟨rfl, rfl, rfl, by simp [World.setRow], fun k hk hne => ?_⟩
      have hne' : k ≠ g := fun e => hne (by rw [e]; rfl)
      rw [setRow_other _ _ _ _ hne', setRow_other _ _ _ _ hne']; rfl
  rw [hW1] at hcp1
  have hz2 : ¬ ((p : Int) = (n : Int)) := by omega
  have hw1 : IntKind.i64.wrap ((p : Int) + 1) = (p : Int) + 1 := by rw [IntKind.wrap_i64]; omega
  have hb1 : (0 : Int) ≤ (p : Int) + 1 := by omega
  have htn : ((p : Int) + 1).toNat = p + 1 := by omega
  have hb6 : (p : Int) ≤ (n : Int) + 1 := by omega
  have hsub : n + 1 - (p + 1) = n - p := by omega
  have hb3 : (n : Int) + 1 ≤ (cap : Int) := by omega
  have hb2 : ¬ (cap = p + 1) := by omega
  have hb4 : ¬ (cap = p) := by omega
  have hb5 : (p : Int) ≤ (n : Int) := by omega
  have h63' : (cap : Int) ≤ 9223372036854775807 := by unfold maxLen at h63; omega
  clear hDl hLl hDt hD1 hDc hR1 hR2 hR1s hR2s hfin hW1 hg1 hv1 hg hv hc ht hD
  go_enter Tryz.func63, Tryz.ntmps63
  go_wp2_with (simp only [hov])
  go_region_law (refine step_copy_runI rfl _ _ 59 59 rfl (.slice (some ⟨g, p + 1, none⟩) (n - p) (cap - (p + 1))) (.slice (some ⟨g, p, none⟩) (n + 1 - p) (cap - p)) (by simp [Act.eval, Act.put]) (by simp [Act.eval, Act.put]) (hcp1 _ _ _) ?_)
  all_goals
    go_wp2_with (at_builtin; refine wpList_copy_runI _ rfl _ _ 59 59 rfl _ _ rfl rfl (hcp2 _ _) ?_)
    go_ret
    exact unhide HF

end Go.Proofs.YtcbenpodohjbiaaGreat
