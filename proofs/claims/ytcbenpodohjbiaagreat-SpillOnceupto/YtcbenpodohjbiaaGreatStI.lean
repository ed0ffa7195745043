import Derived.Test.YtcbenpodohjbiaaGreatStG
import Derived.Test.YtcbenpodohjbiaaGreatShR
import Derived.Shelf.GgSortMore.Stable
import Derived.Shelf.GgSortFunc.SmallK
import Derived.Test.YtcbenpodohjbiaaGreatCellF
set_option linter.unusedSimpArgs false
set_option linter.unusedVariables false
set_option maxRecDepth 100000
namespace Go.Proofs.YtcbenpodohjbiaaGreat
open Go.RowKit Go.Sort Go.Shelf Go.Lib

/-- An order of rows, then by the place. -/
def tagI (m n : Nat) : Int := if m < n then -1 else if m = n then 0 else 1
theorem tagI_anti (m n : Nat) : tagI m n = - tagI n m := by
  unfold tagI
  rcases Nat.lt_trichotomy m n with h | h | h
  · rw [if_pos h, if_neg (by omega), if_neg (by omega)]
  · rw [if_neg (by omega), if_pos h, if_neg (by omega), if_pos h.symm]; rfl
  · rw [if_neg (by omega), if_neg (by omega), if_pos h]; rfl
theorem tagI_le (m n : Nat) : tagI m n ≤ 0 ↔ m ≤ n := by
  unfold tagI
  rcases Nat.lt_trichotomy m n with h | h | h
  · rw [if_pos h]; omega
  · rw [if_neg (by omega), if_pos h]; omega
  · rw [if_neg (by omega), if_neg (by omega)]; omega
def lexOd (g : List Val → List Val → Int) (anti : ∀ x y, g x y = - g y x) (tr : ∀ x y z, g x y ≤ 0 → g y z ≤ 0 → g x z ≤ 0) : Od where
  f x y := if g x.r y.r = 0 then tagI x.t y.t else g x.r y.r
  anti x y := by
    have h := anti x.r y.r
    by_cases e : g x.r y.r = 0
    · rw [if_pos e, if_pos (by omega)]; exact tagI_anti _ _
    · rw [if_neg e, if_neg (by omega)]; exact h
  tr x y z h1 h2 := by
    have a1 := anti x.r y.r
    have a2 := anti y.r z.r
    have a3 := anti x.r z.r
    have t1 := tr x.r y.r z.r
    have t2 := tr y.r z.r x.r
    have t3 := tr z.r x.r y.r
    have k1 := tagI_le x.t y.t
    have k2 := tagI_le y.t z.t
    have k3 := tagI_le x.t z.t
    by_cases e1 : g x.r y.r = 0 <;> by_cases e2 : g y.r z.r = 0 <;> by_cases e3 : g x.r z.r = 0 <;> simp only [e1, e2, e3, if_true, if_false] at h1 h2 ⊢ <;> omega
theorem lexOd_lt (g : List Val → List Val → Int) (anti : ∀ x y, g x y = - g y x) (tr : ∀ x y z, g x y ≤ 0 → g y z ≤ 0 → g x z ≤ 0) {x y : El} (h : y.t < x.t) : decide ((lexOd g anti tr).f x y < 0) = decide (g x.r y.r < 0) := by
  show decide ((if g x.r y.r = 0 then tagI x.t y.t else g x.r y.r) < 0) = _
  by_cases e : g x.r y.r = 0
  · rw [if_pos e, e]
    unfold tagI
    rw [if_neg (by omega), if_neg (by omega)]
    rfl
  · rw [if_neg e]

noncomputable def rT : TypeInfo := (Tryz.prog.info? 22).get (by kernel_rfl)
noncomputable def rE : TypeInfo := (Tryz.prog.info? 70).get (by kernel_rfl)
theorem rK (n : Nat) (h2 : 2 ≤ n) : Lib.swapperK n rE 23 = 9 := by
  have a : rE.hasPointers = true := by kernel_rfl
  have b : rE.bytes = 24 := by kernel_rfl
  have c : (n == 0) = false := by simp; omega
  have d : (n == 1) = false := by simp; omega
  simp [Lib.swapperK, a, b, c, d]
theorem mem_swapL {L : List El} {i j : Nat} (hi : i < L.length) (hj : j < L.length) {x : El} (h : x ∈ swapL L i j) : x ∈ L :=
  (PAB.swap (a := 0) (b := L.length) hi hj (Nat.zero_le _) hi (Nat.zero_le _) hj).perm.mem_iff.1 h
theorem OwnR.at {w : World} {base g N cap : Nat} {L : List El} (h : OwnR w base (.slice (some ⟨g, 0, none⟩) N cap) L) {j : Nat} (hj : j < N) : w.cell? ⟨g, j, none⟩ = some (atL L j).v ∧ w.frozen? ⟨g, j, none⟩ = false := by
  have hN := h.len
  subst hN
  refine ⟨?_, World.ownsRow.frozenAt h _⟩
  rw [World.ownsRow.cellAt h j (by omega), List.getElem?_map, atL_some hj]
  rfl
theorem OwnR.put {w : World} {base g N cap j : Nat} {L : List El} (h : OwnR w base (.slice (some ⟨g, 0, none⟩) N cap) L) (x : El) :
    OwnR (w.setCell ⟨g, j, none⟩ x.v) base (.slice (some ⟨g, 0, none⟩) N cap) (L.set j x) ∧ Grew w (w.setCell ⟨g, j, none⟩ x.v) (.slice (some ⟨g, 0, none⟩) N cap) (.slice (some ⟨g, 0, none⟩) N cap) := by
  have hN := h.len
  subst hN
  have h1 := World.ownsRow.stored h j x.v
  refine ⟨?_, h1.2, .inl rfl⟩
  unfold OwnR
  rw [List.length_set, List.map_set]
  exact h1.1
theorem swapR (base g N cap : Nat) (el : El → Prop) (hone : ∀ x, el x → x.v.oneCell' = true) (W : World) (L : List El) (i j : Nat) (hO : OwnR W base (.slice (some ⟨g, 0, none⟩) N cap) L) (hel : ∀ x ∈ L, el x) (hi : i < N) (hj : j < N) :
    ∃ W', (callFunc 109 (#[.int .i64 i, .int .i64 j] ++ #[.slice (some ⟨g, 0, none⟩) N cap, typeHandle Tryz.prog 70])).run Tryz.prog W = .ok (.value (.tuple #[])) W' ∧ (OwnR W' base (.slice (some ⟨g, 0, none⟩) N cap) (swapL L i j) ∧ ∀ x ∈ swapL L i j, el x) ∧ Grew W W' (.slice (some ⟨g, 0, none⟩) N cap) (.slice (some ⟨g, 0, none⟩) N cap) := by
  have hl := hO.len
  have mi : atL L i ∈ L := List.mem_of_getElem? (atL_some (by omega))
  have mj : atL L j ∈ L := List.mem_of_getElem? (atL_some (by omega))
  have hrun := run_swap_one (P := Tryz.prog) false 70 rE (by kernel_rfl) (by kernel_rfl) (fun _ => by kernel_rfl) g 0 N cap i j hi hj (atL L i).v (atL L j).v (hone _ (hel _ mi)) (hone _ (hel _ mj)) W (by rw [Nat.zero_add]; exact (hO.at hi).1) (by rw [Nat.zero_add]; exact (hO.at hj).1) (by rw [Nat.zero_add]; exact (hO.at hi).2) (by rw [Nat.zero_add]; exact (hO.at hj).2)
  rw [Nat.zero_add, Nat.zero_add] at hrun
  have hx : ∀ args W, (callFunc 109 args).run Tryz.prog W = ((Extern.ReflectliteSwapper.swap false args).run Tryz.prog W).andThen fun v w' => .ok (.value v) w' := fun args W => run_callFunc_extern Tryz.func109 (by kernel_rfl) (by kernel_rfl) (by kernel_rfl) (e := Extern.ReflectliteSwapper.swap false) (by kernel_rfl) args W
  have p1 := hO.put (j := i) (atL L j)
  have p2 := p1.1.put (j := j) (atL L i)
  refine ⟨_, ?_, ⟨p2.1, fun x hm => hel x (mem_swapL (by omega) (by omega) hm)⟩, p1.2.trans p2.2⟩
  rw [hx, show (#[Value.int .i64 (i : Int), Value.int .i64 (j : Int)] ++ #[Value.slice (some ⟨g, 0, none⟩) N cap, typeHandle Tryz.prog 70]) = #[.int .i64 i, .int .i64 j, .slice (some ⟨g, 0, none⟩) N cap, typeHandle Tryz.prog 70] from rfl, hrun]
  rfl
theorem ownR_slice {w : World} {base : Nat} {v : Value} {L : List El} (h : OwnR w base v L) : ∃ a c, v = .slice a L.length c := by
  rcases h.2 with ⟨rfl, h0⟩ | ⟨g, cap, cur, rfl, _⟩
  · exact ⟨none, 0, by rw [h0]⟩
  · exact ⟨_, _, rfl⟩

/-- sort.SliceStable (42) of rows: the same rows, rising, those that are alike in the order in which they stood. -/
theorem slicestable_any (base : Nat) (xs : List El) (v : Value) (w : World) (LF : Nat) (lb : Array Value) (el : El → Prop) (keep : World → Prop) (o : Od) (hl : xs.length ≤ 1048576) (hown : OwnR w base v xs) (hel : ∀ x ∈ xs, el x) (hone : ∀ x, el x → x.v.oneCell' = true) (htag : ∀ k, k < xs.length → (atL xs k).t = k)
    (hk : keep w) (keeps : ∀ W W', keep W → Grew W W' v v → keep W') (ent : ∀ args w, (callFunc LF args).run Tryz.prog w = .ok (.enter LF args) w)
    (les : ∀ (W : World) (L : List El) (i j : Nat), keep W → OwnR W base v L → (∀ x ∈ L, el x) → i < xs.length → j < xs.length → (atL L j).t < (atL L i).t → Calls Tryz.prog LF (#[.int .i64 i, .int .i64 j] ++ lb) W fun e w' => e = .returned (.bool (decide (o.f (atL L i) (atL L j) < 0))) ∧ Below W.heap.size W w') :
    Calls Tryz.prog 47 #[.iface 22 v, .func (.func LF) #[] lb] w fun e w' => e = .returned (.tuple #[]) ∧ ∃ ys, OwnR w' base v ys ∧ Grew w w' v v ∧ ys.Perm xs ∧ SAB o 0 xs.length ys := by
  obtain ⟨aa, ca, rfl⟩ := ownR_slice hown
  by_cases h2 : xs.length ≤ 1
  · have hS : ∃ f : Nat, Calls Tryz.prog 47 #[.iface 22 (.slice aa xs.length ca), .func (.func LF) #[] lb] w fun e w' => e = .returned (.tuple #[]) ∧ ∃ os, w' = grow w os := by
      by_cases h0 : xs.length = 0
      · refine ⟨101, ?_⟩
        have := Any.sort_SliceStable_tiny Tryz.stabR 22 70 rT rE (by kernel_rfl) (by kernel_rfl) (by kernel_rfl) (by kernel_rfl) 23 (fun _ => by kernel_rfl) aa xs.length ca h2 101 (by rw [h0]; kernel_rfl) (.func LF) #[] lb w
        change Calls Tryz.prog 47 _ _ _ at this
        exact this
      · have h1 : xs.length = 1 := by omega
        refine ⟨102, ?_⟩
        have := Any.sort_SliceStable_tiny Tryz.stabR 22 70 rT rE (by kernel_rfl) (by kernel_rfl) (by kernel_rfl) (by kernel_rfl) 23 (fun _ => by kernel_rfl) aa xs.length ca h2 102 (by rw [h1]; kernel_rfl) (.func LF) #[] lb w
        change Calls Tryz.prog 47 _ _ _ at this
        exact this
    obtain ⟨_, hS⟩ := hS
    refine hS.mono ?_
    rintro e w' ⟨rfl, os, rfl⟩
    have hb : Below w.heap.size w (grow w os) := below_regrown w w.drawn os
    exact ⟨rfl, xs, hown.later hb, Grew.of_below hb _, List.Perm.refl _, SAB.one (by omega) _⟩
  · obtain ⟨g, cap, e⟩ : ∃ g cap, (Value.slice aa xs.length ca) = .slice (some ⟨g, 0, none⟩) xs.length cap := by
      rcases hown.2 with ⟨_, h0⟩ | ⟨g, cap, cur, ev, _⟩
      · omega
      · exact ⟨g, cap, ev⟩
    injection e with e1 _ e3
    subst e1 e3
    refine Any.sort_SliceStable_of_stable Tryz.stabR 22 70 rT rE (by kernel_rfl) (by kernel_rfl) (by kernel_rfl) (by kernel_rfl) 23 (fun _ => by kernel_rfl) (some ⟨g, 0, none⟩) xs.length ca (by omega) 109 (by rw [rK _ (by omega)]; kernel_rfl) (.func LF) #[] lb w (fun w' => ∃ ys, OwnR w' base (.slice (some ⟨g, 0, none⟩) xs.length ca) ys ∧ Grew w w' (.slice (some ⟨g, 0, none⟩) xs.length ca) (.slice (some ⟨g, 0, none⟩) xs.length ca) ∧ ys.Perm xs ∧ SAB o 0 xs.length ys) ?_
    have hB : sliceBound Tryz.prog 70 rE 23 (some ⟨g, 0, none⟩) xs.length ca = #[.slice (some ⟨g, 0, none⟩) xs.length ca, typeHandle Tryz.prog 70] := by
      unfold sliceBound; rw [if_neg (by rw [rK _ (by omega)]; omega)]
    rw [hB]
    have core : ∀ W0, Below w.heap.size w W0 → Calls Tryz.prog 74 #[.agg #[.func (.func LF) #[] lb, .func (.func 109) #[] #[.slice (some ⟨g, 0, none⟩) xs.length ca, typeHandle Tryz.prog 70]], .int .i64 xs.length] W0 fun e w' => e = .returned (.tuple #[]) ∧ ∃ ys, OwnR w' base (.slice (some ⟨g, 0, none⟩) xs.length ca) ys ∧ Grew w w' (.slice (some ⟨g, 0, none⟩) xs.length ca) (.slice (some ⟨g, 0, none⟩) xs.length ca) ∧ ys.Perm xs ∧ SAB o 0 xs.length ys := fun W0 hbw => by
      have hT : Sorting.OK ⟨base, g, xs.length, ca, LF, lb, 109, #[.slice (some ⟨g, 0, none⟩) xs.length ca, typeHandle Tryz.prog 70], el, keep, o⟩ W0 :=
        ⟨keeps _ _ hk (Grew.of_below hbw _), keeps, hl, ent, fun W L i j q1 q2 q3 q4 q5 => les W L i j q1 q2.1 q2.2 q3 q4 q5, fun W L i j q1 q2 q3 => swapR base g xs.length ca el hone W L i j q1.1 q1.2 q2 q3⟩
      refine (stable_any _ _ xs hT ⟨hown.later hbw, hel⟩ htag).mono ?_
      rintro e w' ⟨rfl, ys, o1, o2, o3, o4⟩
      exact ⟨rfl, ys, o1.1, (Grew.of_below hbw _).trans o2, o3, o4⟩
    refine core _ ?_
    unfold stableWorld
    exact below_alloc (below_alloc (Below.refl _ w) _) _
end Go.Proofs.YtcbenpodohjbiaaGreat
set_option linter.unusedSimpArgs false
set_option linter.unusedVariables false
set_option maxRecDepth 100000
namespace Go.Proofs.YtcbenpodohjbiaaGreat
open Go.RowKit Go.Sort

/-- A block of values. -/
def Vb (W : World) (b : Nat) : Prop := ∃ cs f, W.heap[b]? = some (.cells cs 73 f)
theorem Vb.lt {W : World} {b : Nat} (h : Vb W b) : b < W.heap.size := by
  obtain ⟨cs, f, h⟩ := h
  exact (Array.getElem?_eq_some_iff.1 h).1
theorem Vb.keep {W W' : World} {b : Nat} (h : Vb W b) (e : W'.heap[b]? = W.heap[b]?) : Vb W' b := by
  obtain ⟨cs, f, h⟩ := h
  exact ⟨cs, f, e.trans h⟩
/-- A row that lies in memory, not in the block g. -/
def RowV (W : World) (g : Option Nat) (x : El) : Prop := ∃ a c, x.v = .slice a x.r.length c ∧ RowAt W a x.r ∧ (∀ b off, a = some ⟨b, off, none⟩ → x.r ≠ [] → g ≠ some b) ∧ ∀ b off, a = some ⟨b, off, none⟩ → x.r ≠ [] → Vb W b
theorem RowV.grew {W W' : World} {v : Value} {x : El} (h : RowV W v.ownBlock x) (hg : Grew W W' v v) : RowV W' v.ownBlock x := by
  obtain ⟨a, c, h1, h2, h3, h4⟩ := h
  refine ⟨a, c, h1, ?_, h3, fun b off e hne => (h4 b off e hne).keep (hg.1.block b (h4 b off e hne).lt (fun q => h3 b off e hne q.symm))⟩
  rcases h2 with h2 | ⟨b, off, rfl, h2⟩
  · exact .inl h2
  · by_cases e : x.r = []
    · exact .inl e
    refine .inr ⟨b, off, rfl, fun i y hy => ?_⟩
    have hne := h3 b off rfl e
    obtain ⟨c0, c1, c2⟩ := h2 i y hy
    have hb := World.block_lt_of_cell? _ _ c0
    rw [grew_kept hg hb hne, grew_kept hg hb hne, grew_kept hg hb hne]
    exact ⟨c0, c1, c2⟩
theorem RowV.later {W W' : World} {g : Option Nat} {x : El} (h : RowV W g x) (hb : Below W.heap.size W W') : RowV W' g x := by
  obtain ⟨a, c, h1, h2, h3, h4⟩ := h
  exact ⟨a, c, h1, h2.later hb, h3, fun b off e hne => (h4 b off e hne).keep (hb.block b (h4 b off e hne).lt)⟩

set_option maxHeartbeats 2000000 in
/-- The less of Sorted (43). -/
theorem less43 (B : Nat) (base g N cap : Nat) (W : World) (L : List El) (i j : Nat) (hbx : W.cell? ⟨B, 0, none⟩ = some (.slice (some ⟨g, 0, none⟩) N cap)) (hN : N ≤ 1048576) (hO : OwnR W base (.slice (some ⟨g, 0, none⟩) N cap) L) (hr : ∀ x ∈ L, RowV W (some g) x ∧ x.r.length ≤ maxLen) (hi : i < N) (hj : j < N) :
    Calls Tryz.prog 48 #[.int .i64 i, .int .i64 j, .pointer (some ⟨B, 0, none⟩)] W fun e w' => e = .returned (.bool (decide (rowsV (atL L i).r (atL L j).r < 0))) ∧ Below W.heap.size W w' := by
  have hl := hO.len
  have mi : atL L i ∈ L := List.mem_of_getElem? (atL_some (by omega))
  have mj : atL L j ∈ L := List.mem_of_getElem? (atL_some (by omega))
  have c0 := (hO.at hi).1
  have d0 := (hO.at hj).1
  obtain ⟨⟨pa, pc, p1, p2, _⟩, p3⟩ := hr _ mi
  obtain ⟨⟨qa, qc, q1, q2, _⟩, q3⟩ := hr _ mj
  rw [p1] at c0
  rw [q1] at d0
  have HO := hide (fun (w2 : World) (hw2 : Below W.heap.size W w2) => rrows_any pa qa pc qc (atL L i).r (atL L j).r w2 p3 q3 (p2.later hw2) (q2.later hw2))
  generalize rowsV (atL L i).r (atL L j).r = O at *
  generalize (atL L i).r.length = li at *
  generalize (atL L j).r.length = lj at *
  have i1 : (i : Int) < (N : Int) := by omega
  have i2 : (j : Int) < (N : Int) := by omega
  clear hO hl mi mj hr p1 q1 p2 q2
  go_enter Tryz.func48, Tryz.ntmps48
  go_upto_region 1 with fail
  have k0 := cell_regrown c0
  have k1 := cell_regrown d0
  have k2 := cell_regrown hbx
  clear c0 d0 hbx
  refine wp_region_quiet_below (by kernel_rfl) (by kernel_rfl) ?_
  repeat (go_big_quiet_step (first
    | (go_at_call 49; exact Calls.regrown_of (unhide HO _ (below_regrown _ _ _)))))
  refine wpQuiet_nil ?_
  intro w' hw'
  have hB : Below W.heap.size W w' := by obtain ⟨p, rfl⟩ := hw'; exact below_regrown _ _ _
  clear hw'
  go_wp2
  go_ret
  exact ⟨rfl, hB⟩

end Go.Proofs.YtcbenpodohjbiaaGreat
set_option linter.unusedSimpArgs false
set_option linter.unusedVariables false
set_option maxRecDepth 100000
namespace Go.Proofs.YtcbenpodohjbiaaGreat
open Go.RowKit Go.Sort

/-- The places anew. -/
def retag (L : List El) : List El := L.mapIdx fun i x => ⟨x.v, i, x.r⟩
theorem retag_get (L : List El) (k : Nat) : (retag L)[k]? = L[k]?.map fun x => ⟨x.v, k, x.r⟩ := by unfold retag; rw [List.getElem?_mapIdx]
theorem retag_len (L : List El) : (retag L).length = L.length := by simp [retag]
theorem retag_v (L : List El) : (retag L).map El.v = L.map El.v := List.ext_getElem? fun k => by
  rw [List.getElem?_map, List.getElem?_map, retag_get]
  cases L[k]? <;> rfl
theorem retag_r (L : List El) : (retag L).map El.r = L.map El.r := List.ext_getElem? fun k => by
  rw [List.getElem?_map, List.getElem?_map, retag_get]
  cases L[k]? <;> rfl
theorem retag_t (L : List El) {k : Nat} (h : k < L.length) : (atL (retag L) k).t = k ∧ (atL (retag L) k).r = (atL L k).r ∧ (atL (retag L) k).v = (atL L k).v := by
  have e : (retag L)[k]? = some ⟨(atL L k).v, k, (atL L k).r⟩ := by rw [retag_get, atL_some h]; rfl
  rw [atL_of e]
  exact ⟨rfl, rfl, rfl⟩
theorem retag_mem {L : List El} {x : El} (h : x ∈ retag L) : ∃ y ∈ L, y.v = x.v ∧ y.r = x.r := by
  obtain ⟨k, hk⟩ := List.getElem?_of_mem h
  rw [retag_get] at hk
  obtain ⟨y, hy, rfl⟩ := Option.map_eq_some_iff.1 hk
  exact ⟨y, List.mem_of_getElem? hy, rfl, rfl⟩
theorem OwnR.retag {w : World} {base : Nat} {v : Value} {L : List El} (h : OwnR w base v L) : OwnR w base v (retag L) := by
  unfold OwnR
  rw [retag_len, retag_v]
  exact h
theorem RowV.of {W : World} {g : Option Nat} {x y : El} (h : RowV W g y) (hv : y.v = x.v) (hr : y.r = x.r) : RowV W g x := by
  unfold RowV at *
  rw [← hv, ← hr]
  exact h
/-- What holds of a row that is sorted. -/
def RowK (W : World) (g : Option Nat) (L : List El) (x : El) : Prop := RowV W g x ∧ x.r.length ≤ maxLen ∧ ∃ y ∈ L, y.r = x.r

theorem stableRows (base : Nat) (L : List El) (v : Value) (w : World) (LF : Nat) (lb : Array Value) (keep : World → Prop) (g : List Val → List Val → Int) (anti : ∀ x y, g x y = - g y x) (tr : ∀ x y z, g x y ≤ 0 → g y z ≤ 0 → g x z ≤ 0) (hl : L.length ≤ 1048576) (hO : OwnR w base v L) (hr : ∀ x ∈ L, RowV w v.ownBlock x ∧ x.r.length ≤ maxLen)
    (hk : keep w) (keeps : ∀ W W', keep W → Grew W W' v v → keep W') (ent : ∀ args w, (callFunc LF args).run Tryz.prog w = .ok (.enter LF args) w)
    (les : ∀ (W : World) (M : List El) (i j gb cap : Nat), keep W → v = .slice (some ⟨gb, 0, none⟩) L.length cap → OwnR W base v M → (∀ x ∈ M, RowK W v.ownBlock L x) → i < L.length → j < L.length → Calls Tryz.prog LF (#[.int .i64 i, .int .i64 j] ++ lb) W fun e w' => e = .returned (.bool (decide (g (atL M i).r (atL M j).r < 0))) ∧ Below W.heap.size W w') :
    Calls Tryz.prog 47 #[.iface 22 v, .func (.func LF) #[] lb] w fun e w' => e = .returned (.tuple #[]) ∧ ∃ L', OwnR w' base v L' ∧ Grew w w' v v ∧ L'.Perm (retag L) ∧ SAB (lexOd g anti tr) 0 L.length L' ∧ ∀ x ∈ L', RowK w' v.ownBlock L x := by
  have hr1 : ∀ x ∈ retag L, RowK w v.ownBlock L x := fun x hx => by
    obtain ⟨y, hy, h1, h2⟩ := retag_mem hx
    obtain ⟨h3, h4⟩ := hr y hy
    exact ⟨h3.of h1 h2, by rw [← h2]; exact h4, y, hy, h2⟩
  have h := slicestable_any base (retag L) v w LF lb (fun x => x ∈ retag L) (fun W => keep W ∧ ∀ x ∈ retag L, RowK W v.ownBlock L x) (lexOd g anti tr) (by rw [retag_len]; exact hl) hO.retag (fun x hx => hx) (fun x hx => by
      obtain ⟨⟨a, c, h1, _⟩, _⟩ := hr1 x hx
      rw [h1]; rfl) (fun k hk => by rw [retag_len] at hk; exact (retag_t L hk).1) ⟨hk, hr1⟩ (fun W W' q1 q2 => ⟨keeps W W' q1.1 q2, fun x hx => ⟨(q1.2 x hx).1.grew q2, (q1.2 x hx).2⟩⟩) ent
      (fun W M i j q1 q2 q3 q4 q5 q6 => by
        rw [retag_len] at q4 q5
        have hv : ∃ gb cap, v = .slice (some ⟨gb, 0, none⟩) L.length cap := by
          rcases hO.2 with ⟨_, h0⟩ | ⟨gb, cap, cur, ev, _⟩
          · omega
          · exact ⟨gb, cap, ev⟩
        obtain ⟨gb, cap, hv⟩ := hv
        rw [lexOd_lt g anti tr q6]
        exact les W M i j gb cap q1.1 hv q2 (fun x hx => q1.2 x (q3 x hx)) q4 q5)
  rw [retag_len] at h
  refine h.mono ?_
  rintro e w' ⟨rfl, ys, o1, o2, o3, o4⟩
  refine ⟨rfl, ys, o1, o2, o3, o4, fun x hx => ?_⟩
  have := hr1 x (o3.mem_iff.1 hx)
  exact ⟨this.1.grew o2, this.2⟩

theorem sab_rises {g : List Val → List Val → Int} {anti : ∀ x y, g x y = - g y x} {tr : ∀ x y z, g x y ≤ 0 → g y z ≤ 0 → g x z ≤ 0} {L : List El} (h : SAB (lexOd g anti tr) 0 L.length L) : (L.map El.r).Pairwise fun x y => g x y ≤ 0 := by
  refine List.pairwise_iff_getElem.2 fun i j hi hj hij => ?_
  rw [List.length_map] at hi hj
  have h1 := h i j (Nat.zero_le _) hij hj
  rw [List.getElem_map, List.getElem_map]
  rw [atL_of (List.getElem?_eq_getElem hi), atL_of (List.getElem?_eq_getElem hj)] at h1
  change (if g L[i].r L[j].r = 0 then tagI L[i].t L[j].t else g L[i].r L[j].r) ≤ 0 at h1
  split at h1
  · omega
  · exact h1
/-- sort.SliceStable by the less of Sorted. -/
theorem sort43 (base B : Nat) (L : List El) (v : Value) (w : World) (hl : L.length ≤ 1048576) (hO : OwnR w base v L) (hbx : w.cell? ⟨B, 0, none⟩ = some v) (hne : v.ownBlock ≠ some B) (hr : ∀ x ∈ L, RowV w v.ownBlock x ∧ x.r.length ≤ maxLen) :
    Calls Tryz.prog 47 #[.iface 22 v, .func (.func 48) #[] #[.pointer (some ⟨B, 0, none⟩)]] w fun e w' => e = .returned (.tuple #[]) ∧ ∃ L', OwnR w' base v L' ∧ Grew w w' v v ∧ (L'.map El.r).Perm (L.map El.r) ∧ RisesR (L'.map El.r) ∧ ∀ x ∈ L', RowV w' v.ownBlock x ∧ x.r.length ≤ maxLen := by
  refine (stableRows base L v w 48 #[.pointer (some ⟨B, 0, none⟩)] (fun W => W.cell? ⟨B, 0, none⟩ = some v) rowsV rows_anti rows_le hl hO hr hbx (fun W W' q1 q2 => by rw [grew_kept q2 (World.block_lt_of_cell? _ _ q1) hne]; exact q1) (fun args w => by kernel_rfl) (fun W M i j gb cap q1 q2 q3 q4 q5 q6 => by
    subst q2
    exact less43 B base gb L.length cap W M i j q1 hl q3 (fun x hx => ⟨(q4 x hx).1, (q4 x hx).2.1⟩) q5 q6)).mono ?_
  rintro e w' ⟨rfl, L', o1, o2, o3, o4, o5⟩
  have hlen : L'.length = L.length := by rw [o3.length_eq, retag_len]
  refine ⟨rfl, L', o1, o2, ?_, sab_rises (by rw [hlen]; exact o4), fun x hx => ⟨(o5 x hx).1, (o5 x hx).2.1⟩⟩
  have := o3.map El.r
  rw [retag_r] at this
  exact this
end Go.Proofs.YtcbenpodohjbiaaGreat
