import Derived.Test.YtbdkpkpncmagoaaGreatRdA
import Derived.Laws.OwnMore
set_option linter.unusedSimpArgs false
set_option linter.unusedVariables false
namespace Go.Proofs.YtbdkpkpncmagoaaGreat
open Go.RowKit Go.Sort

theorem step_append_both {ops : Array Oper} {o : Oper} {a : Act} {w : World} {K : Act → World → Prop} {Q : Exit → Act → World → Prop} {E : Prop} (hgd : o.guard = none) (s x : Operand)
    (ho : o.op = .call { callee := .builtin .append, args := #[s, x], argTypes := #[34, 34] }) (base base' : Nat) (v u : Value) (zs ws : List Val) (hs : a.eval s = v) (hx : a.eval x = u) (hown : OwnV w base v zs) (hown' : OwnV w base' u ws)
    (hl : (zs.length + ws.length) * 32 ≤ 140737488355328) (hbase : base ≤ w.heap.size)
    (h : ∀ v' w', OwnV w' base v' (zs ++ ws) → w.grownBy w' v.ownBlock → K (a.put o.dst v') w') :
    if Region.wanted o (yielded ops a.tmps) = true then Oper.wp Tryz.prog o a w K Q else E := by
  obtain ⟨i, hi, hz, hsize, hby⟩ := info_parts Tryz.info42
  have hw : Region.wanted o (yielded ops a.tmps) = true := by simp [Region.wanted, hgd]
  rw [if_pos hw]
  have hcell := @World.ownsRow.cells w base' 42 3 u ws.length (ws.flatMap c3) hown'
  rcases hown'.2 with ⟨rfl, h0⟩ | ⟨g, cap, cur, rfl, _⟩
  · have e0 : ws = [] := List.eq_nil_of_length_eq_zero h0
    subst e0
    have hrun := run_append_owned_none (P := Tryz.prog) (w := w) base 34 o.type 42 i 3 Tryz.underlying34 hi v zs.length (zs.flatMap c3) hown
    unfold Oper.wp
    simp [execOp, ho, resolve, invoke, builtin, hs, hx, hrun, Result.andThen]
    exact h _ _ (by simpa using hown) (World.grownBy.refl _ _)
  · obtain ⟨v', w', hrun, r1, r2, _, _⟩ := run_append_own_at (P := Tryz.prog) w base 34 o.type 42 i _ 3 32 Tryz.underlying34 hi hz hsize hby rfl (by decide) v zs.length (zs.flatMap c3) hown ⟨g, 0, none⟩ ws.length cap (ws.flatMap c3) (flat_len ws) (hcell rfl)
      (by intro u hu; obtain ⟨z, _, hz⟩ := List.mem_flatMap.1 hu; exact c3_one z u hz) (by unfold maxLen; omega) hl hbase
    unfold Oper.wp
    simp [execOp, ho, resolve, invoke, builtin, hs, hx, hrun, Result.andThen]
    refine h _ _ ?_ r2
    unfold OwnV
    rw [List.length_append, List.flatMap_append]
    exact r1

def joinedV (X Y : Vc) : Vc × Int :=
  if (goodB X && goodB Y) = false then (.zero, 1) else if (X.k != Y.k) = true then (.zero, 4) else (laidV X.k (valsV X ++ valsV Y), 0)

def boxes3V (w : World) (X Y : Vc) (p q : Sl) : World := (boxV (boxV w X p) Y q).alloc (.cells #[.int .i64 0, .slice none 0 0, .slice none 0 0, .slice none 0 0] 49)
theorem boxes3_factsV {w w' : World} {X Y : Vc} {p q : Sl} (h : Below (boxes3V w X Y p q).heap.size (boxes3V w X Y p q) w') :
    w'.rowIs w.heap.size 49 4 (box4 (.int .i64 X.k) (.slice p.a1 X.nl.length p.c1) (.slice p.a2 X.ns.length p.c2) (.slice p.a3 X.ss.length p.c3)) ∧
    w'.rowIs (w.heap.size + 1) 49 4 (box4 (.int .i64 Y.k) (.slice q.a1 Y.nl.length q.c1) (.slice q.a2 Y.ns.length q.c2) (.slice q.a3 Y.ss.length q.c3)) ∧
    w'.rowIs (w.heap.size + 1 + 1) 49 4 (box4 (.int .i64 0) noS noS noS) ∧ Below w.heap.size w w' := by
  refine ⟨rowIs_later (((box4_alloc w _ _ _ _).alloc _).alloc _) h, ?_, ?_, below_step (below_alloc (below_alloc (below_alloc (Below.refl _ _) _) _) _) h⟩
  · have := rowIs_later ((box4_alloc (boxV w X p) (.int .i64 Y.k) (.slice q.a1 Y.nl.length q.c1) (.slice q.a2 Y.ns.length q.c2) (.slice q.a3 Y.ss.length q.c3)).alloc _) h
    simpa [boxV] using this
  · have := rowIs_later (box4_alloc (boxV (boxV w X p) Y q) (.int .i64 0) noS noS noS) h
    simpa [boxV] using this
theorem below_set42 {w0 w : World} (h : Below w0.heap.size w0 w) (v0 v1 v2 v3 : Value) : Below w0.heap.size w0 ((((w.setCell ⟨w0.heap.size + 1 + 1, 0, none⟩ v0).setCell ⟨w0.heap.size + 1 + 1, 1, none⟩ v1).setCell ⟨w0.heap.size + 1 + 1, 2, none⟩ v2).setCell ⟨w0.heap.size + 1 + 1, 3, none⟩ v3) := below_set4 h (by omega) _ _ _ _

theorem jS {w w' : World} {X Y : Vc} {p q : Sl} (hb : Below w.heap.size w w')
    (h1 : w'.rowIs w.heap.size 49 4 (box4 (.int .i64 X.k) (.slice p.a1 X.nl.length p.c1) (.slice p.a2 X.ns.length p.c2) (.slice p.a3 X.ss.length p.c3)))
    (h2 : w'.rowIs (w.heap.size + 1) 49 4 (box4 (.int .i64 Y.k) (.slice q.a1 Y.nl.length q.c1) (.slice q.a2 Y.ns.length q.c2) (.slice q.a3 Y.ss.length q.c3))) :
    Below w.heap.size w w' ∧ w'.cell? ⟨w.heap.size, 0, none⟩ = some (.int .i64 X.k) ∧ w'.cell? ⟨w.heap.size, 1, none⟩ = some (.slice p.a1 X.nl.length p.c1) ∧ w'.cell? ⟨w.heap.size, 2, none⟩ = some (.slice p.a2 X.ns.length p.c2) ∧ w'.cell? ⟨w.heap.size, 3, none⟩ = some (.slice p.a3 X.ss.length p.c3) ∧ w'.cell? ⟨w.heap.size + 1, 0, none⟩ = some (.int .i64 Y.k) ∧ w'.cell? ⟨w.heap.size + 1, 1, none⟩ = some (.slice q.a1 Y.nl.length q.c1) ∧ w'.cell? ⟨w.heap.size + 1, 2, none⟩ = some (.slice q.a2 Y.ns.length q.c2) ∧ w'.cell? ⟨w.heap.size + 1, 3, none⟩ = some (.slice q.a3 Y.ss.length q.c3) := by
  obtain ⟨t0, t1, t2, t3, _⟩ := box_facts h1
  obtain ⟨o0, o1, o2, o3, _⟩ := box_facts h2
  exact ⟨hb, t0, t1, t2, t3, o0, o1, o2, o3⟩
theorem rowIs_set4 {w : World} {g t n B : Nat} {F : Nat → Value} (h : w.rowIs g t n F) (hne : g ≠ B) (v0 v1 v2 v3 : Value) : ((((w.setCell ⟨B, 0, none⟩ v0).setCell ⟨B, 1, none⟩ v1).setCell ⟨B, 2, none⟩ v2).setCell ⟨B, 3, none⟩ v3).rowIs g t n F :=
  (((h.setOther hne _).setOther hne _).setOther hne _).setOther hne _
theorem grown_row {w w1 : World} {g n : Nat} {F : Nat → Value} {base : Nat} {v : Value} {zs : List Val} (h : w.rowIs g 49 n F) (ho : OwnV w base v zs) (hg : w.grownBy w1 v.ownBlock) : w1.rowIs g 49 n F := rowIs_grown h hg (own_ne h ho (by decide))

end Go.Proofs.YtbdkpkpncmagoaaGreat
set_option linter.unusedSimpArgs false
set_option linter.unusedVariables false
namespace Go.Proofs.YtbdkpkpncmagoaaGreat
open Go.RowKit Go.Sort

end Go.Proofs.YtbdkpkpncmagoaaGreat
set_option linter.unusedSimpArgs false
set_option linter.unusedVariables false
set_option maxRecDepth 100000
namespace Go.Proofs.YtbdkpkpncmagoaaGreat
open Go.RowKit Go.Sort

theorem own_keep {w w1 : World} {base e size : Nat} {v : Value} {m : Nat} {xs : List Value} (h : w.ownsRow base e size v m xs) (hb : ∀ g, v.ownBlock = some g → w1.heap[g]? = w.heap[g]?) : w1.ownsRow base e size v m xs := by
  refine ⟨h.1, ?_⟩
  rcases h.2 with h2 | ⟨g, cap, cur, rfl, h3, h4, h5⟩
  · exact .inl h2
  · exact .inr ⟨g, cap, cur, rfl, h3, by rw [hb g rfl]; exact h4, h5⟩
theorem own_slice {w : World} {base e size n : Nat} {S : Value} {xs : List Value} (h : w.ownsRow base e size S n xs) : ∃ a c, S = .slice a n c := by
  rcases h.2 with ⟨e, h0⟩ | ⟨g, cap, cur, he, _⟩
  · rw [← h0] at e; exact ⟨_, _, e⟩
  · exact ⟨_, _, he⟩
/-- append to a list of the call's own: in place, or in new memory, and then nothing that was there has changed. -/
def AppOk (st t sz : Nat) : Prop := ∀ (w : World) (base n m c : Nat) (S : Value) (xs ys : List Value) (ty : TypeId) (a : Addr), w.ownsRow base t sz S n xs → ys.length = m * sz → (∀ j u, ys[j]? = some u → w.cell? (a.add j) = some u) → (∀ u ∈ ys, u.oneCell' = true) → n + m ≤ 4194304 → 0 < m → base ≤ w.heap.size →
    ∃ S' w', (Builtin.append_ #[st, st] ty #[S, .slice (some a) m c]).run Tryz.prog w = .ok S' w' ∧ w'.ownsRow base t sz S' (n + m) (xs ++ ys) ∧
      ((∃ g cap, S = .slice (some ⟨g, 0, none⟩) n cap ∧ S' = .slice (some ⟨g, 0, none⟩) (n + m) cap ∧ w.grownBy w' (some g)) ∨ ((∀ g, S'.ownBlock = some g → w.heap.size ≤ g) ∧ Below w.heap.size w w'))
theorem app_okB : AppOk 45 4 1 := by
  intro w base n m c S xs ys ty a ho hyl hc hone hl hm0 hb
  obtain ⟨i2, hi2, z20, z21, z22⟩ := info_parts Tryz.info4
  obtain ⟨S', w', hr, h2, h3, _, h5⟩ := run_append_own_at (P := Tryz.prog) (w := w) base 45 ty 4 i2 (.bool false) 1 1 Tryz.underlying45 hi2 z20 z21 z22 rfl (by decide) S n xs ho a m c ys hyl hc hone (by unfold maxLen; omega) (by omega) hb
  refine ⟨S', w', hr, h2, ?_⟩
  have hnew : ∀ v'' w'', (Builtin.append_ #[45, 45] ty #[S, .slice (some a) m c]).run Tryz.prog w = .ok v'' w'' → v''.ownBlock = some w.heap.size → Below w.heap.size w w'' → (∀ g, S'.ownBlock = some g → w.heap.size ≤ g) ∧ Below w.heap.size w w' := fun v'' w'' hr2 hv hbl => by
    rw [hr] at hr2
    injection hr2 with e1 e2
    subst e1 e2
    exact ⟨fun g hg => by rw [hv] at hg; injection hg with hg; omega, hbl⟩
  rcases id ho.2 with ⟨e, h0⟩ | ⟨g, cap, cur, e, hbg, hg, hnc, hcm, hcs, htake⟩
  · right
    subst e
    have hr2 := run_append_nil (P := Tryz.prog) w 45 ty 4 i2 _ Tryz.underlying45 hi2 z20 a m c ys (by rw [z21]; exact hyl) hc hm0 (by omega) (by rw [z22]; omega)
    exact hnew _ _ hr2 rfl (below_alloc (Below.refl _ _).drew _)
  · by_cases hroom : n + m ≤ cap
    · left
      subst e
      obtain ⟨w2, hr2, _, hg2⟩ := run_append_fits (P := Tryz.prog) w base 45 ty 4 i2 1 Tryz.underlying45 hi2 z21 g n cap xs ho a m c ys hyl hc hone hroom
      rw [hr] at hr2
      injection hr2 with e1 e2
      subst e1 e2
      exact ⟨g, cap, rfl, rfl, hg2⟩
    · right
      subst e
      have holds := ho.cells (g := g) rfl
      have hr2 := run_append_grow (P := Tryz.prog) w 45 ty 4 i2 _ Tryz.underlying45 hi2 z20 ⟨g, 0, none⟩ n cap xs (by rw [z21]; exact ho.1) holds a m c ys (by rw [z21]; exact hyl) hc (by omega) (by omega) (growslice_fits (by omega) (by rw [z22]; omega))
      exact hnew _ _ hr2 rfl (below_alloc (Below.refl _ _).drew _)
theorem app_okI : AppOk 22 3 1 := by
  intro w base n m c S xs ys ty a ho hyl hc hone hl hm0 hb
  obtain ⟨i2, hi2, z20, z21, z22⟩ := info_parts Tryz.info3
  obtain ⟨S', w', hr, h2, h3, _, h5⟩ := run_append_own_at (P := Tryz.prog) (w := w) base 22 ty 3 i2 (.int .i64 0) 1 8 Tryz.underlying22 hi2 z20 z21 z22 rfl (by decide) S n xs ho a m c ys hyl hc hone (by unfold maxLen; omega) (by omega) hb
  refine ⟨S', w', hr, h2, ?_⟩
  have hnew : ∀ v'' w'', (Builtin.append_ #[22, 22] ty #[S, .slice (some a) m c]).run Tryz.prog w = .ok v'' w'' → v''.ownBlock = some w.heap.size → Below w.heap.size w w'' → (∀ g, S'.ownBlock = some g → w.heap.size ≤ g) ∧ Below w.heap.size w w' := fun v'' w'' hr2 hv hbl => by
    rw [hr] at hr2
    injection hr2 with e1 e2
    subst e1 e2
    exact ⟨fun g hg => by rw [hv] at hg; injection hg with hg; omega, hbl⟩
  rcases id ho.2 with ⟨e, h0⟩ | ⟨g, cap, cur, e, hbg, hg, hnc, hcm, hcs, htake⟩
  · right
    subst e
    have hr2 := run_append_nil (P := Tryz.prog) w 22 ty 3 i2 _ Tryz.underlying22 hi2 z20 a m c ys (by rw [z21]; exact hyl) hc hm0 (by omega) (by rw [z22]; omega)
    exact hnew _ _ hr2 rfl (below_alloc (Below.refl _ _).drew _)
  · by_cases hroom : n + m ≤ cap
    · left
      subst e
      obtain ⟨w2, hr2, _, hg2⟩ := run_append_fits (P := Tryz.prog) w base 22 ty 3 i2 1 Tryz.underlying22 hi2 z21 g n cap xs ho a m c ys hyl hc hone hroom
      rw [hr] at hr2
      injection hr2 with e1 e2
      subst e1 e2
      exact ⟨g, cap, rfl, rfl, hg2⟩
    · right
      subst e
      have holds := ho.cells (g := g) rfl
      have hr2 := run_append_grow (P := Tryz.prog) w 22 ty 3 i2 _ Tryz.underlying22 hi2 z20 ⟨g, 0, none⟩ n cap xs (by rw [z21]; exact ho.1) holds a m c ys (by rw [z21]; exact hyl) hc (by omega) (by omega) (growslice_fits (by omega) (by rw [z22]; omega))
      exact hnew _ _ hr2 rfl (below_alloc (Below.refl _ _).drew _)
theorem app_okL : AppOk 46 2 1 := by
  intro w base n m c S xs ys ty a ho hyl hc hone hl hm0 hb
  obtain ⟨i2, hi2, z20, z21, z22⟩ := info_parts Tryz.info2
  obtain ⟨S', w', hr, h2, h3, _, h5⟩ := run_append_own_at (P := Tryz.prog) (w := w) base 46 ty 2 i2 (.int .i64 0) 1 8 Tryz.underlying46 hi2 z20 z21 z22 rfl (by decide) S n xs ho a m c ys hyl hc hone (by unfold maxLen; omega) (by omega) hb
  refine ⟨S', w', hr, h2, ?_⟩
  have hnew : ∀ v'' w'', (Builtin.append_ #[46, 46] ty #[S, .slice (some a) m c]).run Tryz.prog w = .ok v'' w'' → v''.ownBlock = some w.heap.size → Below w.heap.size w w'' → (∀ g, S'.ownBlock = some g → w.heap.size ≤ g) ∧ Below w.heap.size w w' := fun v'' w'' hr2 hv hbl => by
    rw [hr] at hr2
    injection hr2 with e1 e2
    subst e1 e2
    exact ⟨fun g hg => by rw [hv] at hg; injection hg with hg; omega, hbl⟩
  rcases id ho.2 with ⟨e, h0⟩ | ⟨g, cap, cur, e, hbg, hg, hnc, hcm, hcs, htake⟩
  · right
    subst e
    have hr2 := run_append_nil (P := Tryz.prog) w 46 ty 2 i2 _ Tryz.underlying46 hi2 z20 a m c ys (by rw [z21]; exact hyl) hc hm0 (by omega) (by rw [z22]; omega)
    exact hnew _ _ hr2 rfl (below_alloc (Below.refl _ _).drew _)
  · by_cases hroom : n + m ≤ cap
    · left
      subst e
      obtain ⟨w2, hr2, _, hg2⟩ := run_append_fits (P := Tryz.prog) w base 46 ty 2 i2 1 Tryz.underlying46 hi2 z21 g n cap xs ho a m c ys hyl hc hone hroom
      rw [hr] at hr2
      injection hr2 with e1 e2
      subst e1 e2
      exact ⟨g, cap, rfl, rfl, hg2⟩
    · right
      subst e
      have holds := ho.cells (g := g) rfl
      have hr2 := run_append_grow (P := Tryz.prog) w 46 ty 2 i2 _ Tryz.underlying46 hi2 z20 ⟨g, 0, none⟩ n cap xs (by rw [z21]; exact ho.1) holds a m c ys (by rw [z21]; exact hyl) hc (by omega) (by omega) (growslice_fits (by omega) (by rw [z22]; omega))
      exact hnew _ _ hr2 rfl (below_alloc (Below.refl _ _).drew _)
theorem app_okT : AppOk 47 9 1 := by
  intro w base n m c S xs ys ty a ho hyl hc hone hl hm0 hb
  obtain ⟨i2, hi2, z20, z21, z22⟩ := info_parts Tryz.info9
  obtain ⟨S', w', hr, h2, h3, _, h5⟩ := run_append_own_at (P := Tryz.prog) (w := w) base 47 ty 9 i2 (.string ⟨#[]⟩) 1 16 Tryz.underlying47 hi2 z20 z21 z22 rfl (by decide) S n xs ho a m c ys hyl hc hone (by unfold maxLen; omega) (by omega) hb
  refine ⟨S', w', hr, h2, ?_⟩
  have hnew : ∀ v'' w'', (Builtin.append_ #[47, 47] ty #[S, .slice (some a) m c]).run Tryz.prog w = .ok v'' w'' → v''.ownBlock = some w.heap.size → Below w.heap.size w w'' → (∀ g, S'.ownBlock = some g → w.heap.size ≤ g) ∧ Below w.heap.size w w' := fun v'' w'' hr2 hv hbl => by
    rw [hr] at hr2
    injection hr2 with e1 e2
    subst e1 e2
    exact ⟨fun g hg => by rw [hv] at hg; injection hg with hg; omega, hbl⟩
  rcases id ho.2 with ⟨e, h0⟩ | ⟨g, cap, cur, e, hbg, hg, hnc, hcm, hcs, htake⟩
  · right
    subst e
    have hr2 := run_append_nil (P := Tryz.prog) w 47 ty 9 i2 _ Tryz.underlying47 hi2 z20 a m c ys (by rw [z21]; exact hyl) hc hm0 (by omega) (by rw [z22]; omega)
    exact hnew _ _ hr2 rfl (below_alloc (Below.refl _ _).drew _)
  · by_cases hroom : n + m ≤ cap
    · left
      subst e
      obtain ⟨w2, hr2, _, hg2⟩ := run_append_fits (P := Tryz.prog) w base 47 ty 9 i2 1 Tryz.underlying47 hi2 z21 g n cap xs ho a m c ys hyl hc hone hroom
      rw [hr] at hr2
      injection hr2 with e1 e2
      subst e1 e2
      exact ⟨g, cap, rfl, rfl, hg2⟩
    · right
      subst e
      have holds := ho.cells (g := g) rfl
      have hr2 := run_append_grow (P := Tryz.prog) w 47 ty 9 i2 _ Tryz.underlying47 hi2 z20 ⟨g, 0, none⟩ n cap xs (by rw [z21]; exact ho.1) holds a m c ys (by rw [z21]; exact hyl) hc (by omega) (by omega) (growslice_fits (by omega) (by rw [z22]; omega))
      exact hnew _ _ hr2 rfl (below_alloc (Below.refl _ _).drew _)
theorem Tryz.info22M : (Tryz.prog.info? 34).map (fun i => (i.zero, i.size, i.bytes)) = some (some (.slice none 0 0), 1, 24) := by kernel_rfl
theorem app_okR : AppOk 23 34 1 := by
  intro w base n m c S xs ys ty a ho hyl hc hone hl hm0 hb
  obtain ⟨i2, hi2, z20, z21, z22⟩ := info_parts Tryz.info22M
  obtain ⟨S', w', hr, h2, h3, _, h5⟩ := run_append_own_at (P := Tryz.prog) (w := w) base 23 ty 34 i2 (.slice none 0 0) 1 24 Tryz.underlying23 hi2 z20 z21 z22 rfl (by decide) S n xs ho a m c ys hyl hc hone (by unfold maxLen; omega) (by omega) hb
  refine ⟨S', w', hr, h2, ?_⟩
  have hnew : ∀ v'' w'', (Builtin.append_ #[23, 23] ty #[S, .slice (some a) m c]).run Tryz.prog w = .ok v'' w'' → v''.ownBlock = some w.heap.size → Below w.heap.size w w'' → (∀ g, S'.ownBlock = some g → w.heap.size ≤ g) ∧ Below w.heap.size w w' := fun v'' w'' hr2 hv hbl => by
    rw [hr] at hr2
    injection hr2 with e1 e2
    subst e1 e2
    exact ⟨fun g hg => by rw [hv] at hg; injection hg with hg; omega, hbl⟩
  rcases id ho.2 with ⟨e, h0⟩ | ⟨g, cap, cur, e, hbg, hg, hnc, hcm, hcs, htake⟩
  · right
    subst e
    have hr2 := run_append_nil (P := Tryz.prog) w 23 ty 34 i2 _ Tryz.underlying23 hi2 z20 a m c ys (by rw [z21]; exact hyl) hc hm0 (by omega) (by rw [z22]; omega)
    exact hnew _ _ hr2 rfl (below_alloc (Below.refl _ _).drew _)
  · by_cases hroom : n + m ≤ cap
    · left
      subst e
      obtain ⟨w2, hr2, _, hg2⟩ := run_append_fits (P := Tryz.prog) w base 23 ty 34 i2 1 Tryz.underlying23 hi2 z21 g n cap xs ho a m c ys hyl hc hone hroom
      rw [hr] at hr2
      injection hr2 with e1 e2
      subst e1 e2
      exact ⟨g, cap, rfl, rfl, hg2⟩
    · right
      subst e
      have holds := ho.cells (g := g) rfl
      have hr2 := run_append_grow (P := Tryz.prog) w 23 ty 34 i2 _ Tryz.underlying23 hi2 z20 ⟨g, 0, none⟩ n cap xs (by rw [z21]; exact ho.1) holds a m c ys (by rw [z21]; exact hyl) hc (by omega) (by omega) (growslice_fits (by omega) (by rw [z22]; omega))
      exact hnew _ _ hr2 rfl (below_alloc (Below.refl _ _).drew _)
theorem app_okV : AppOk 34 42 3 := by
  intro w base n m c S xs ys ty a ho hyl hc hone hl hm0 hb
  obtain ⟨i2, hi2, z20, z21, z22⟩ := info_parts Tryz.info42
  obtain ⟨S', w', hr, h2, h3, _, h5⟩ := run_append_own_at (P := Tryz.prog) (w := w) base 34 ty 42 i2 (.agg #[.int .i64 0, .int .i64 0, .string ⟨#[]⟩]) 3 32 Tryz.underlying34 hi2 z20 z21 z22 rfl (by decide) S n xs ho a m c ys hyl hc hone (by unfold maxLen; omega) (by omega) hb
  refine ⟨S', w', hr, h2, ?_⟩
  have hnew : ∀ v'' w'', (Builtin.append_ #[34, 34] ty #[S, .slice (some a) m c]).run Tryz.prog w = .ok v'' w'' → v''.ownBlock = some w.heap.size → Below w.heap.size w w'' → (∀ g, S'.ownBlock = some g → w.heap.size ≤ g) ∧ Below w.heap.size w w' := fun v'' w'' hr2 hv hbl => by
    rw [hr] at hr2
    injection hr2 with e1 e2
    subst e1 e2
    exact ⟨fun g hg => by rw [hv] at hg; injection hg with hg; omega, hbl⟩
  rcases id ho.2 with ⟨e, h0⟩ | ⟨g, cap, cur, e, hbg, hg, hnc, hcm, hcs, htake⟩
  · right
    subst e
    have hr2 := run_append_nil (P := Tryz.prog) w 34 ty 42 i2 _ Tryz.underlying34 hi2 z20 a m c ys (by rw [z21]; exact hyl) hc hm0 (by omega) (by rw [z22]; omega)
    exact hnew _ _ hr2 rfl (below_alloc (Below.refl _ _).drew _)
  · by_cases hroom : n + m ≤ cap
    · left
      subst e
      obtain ⟨w2, hr2, _, hg2⟩ := run_append_fits (P := Tryz.prog) w base 34 ty 42 i2 3 Tryz.underlying34 hi2 z21 g n cap xs ho a m c ys hyl hc hone hroom
      rw [hr] at hr2
      injection hr2 with e1 e2
      subst e1 e2
      exact ⟨g, cap, rfl, rfl, hg2⟩
    · right
      subst e
      have holds := ho.cells (g := g) rfl
      have hr2 := run_append_grow (P := Tryz.prog) w 34 ty 42 i2 _ Tryz.underlying34 hi2 z20 ⟨g, 0, none⟩ n cap xs (by rw [z21]; exact ho.1) holds a m c ys (by rw [z21]; exact hyl) hc (by omega) (by omega) (growslice_fits (by omega) (by rw [z22]; omega))
      exact hnew _ _ hr2 rfl (below_alloc (Below.refl _ _).drew _)

theorem own_pre {w : World} {base t sz g N n cap : Nat} {L : List Value} (h : w.ownsRow base t sz (.slice (some ⟨g, 0, none⟩) N cap) N L) (hn : n ≤ N) : w.ownsRow base t sz (.slice (some ⟨g, 0, none⟩) n cap) n (L.take (n * sz)) := by
  have hle : n * sz ≤ N * sz := Nat.mul_le_mul_right _ hn
  rcases h.2 with ⟨e, _⟩ | ⟨g', cap', cur, e, hb, hh, hnc, hcm, hcs, htake⟩
  · cases e
  cases e
  refine ⟨by rw [List.length_take, h.1]; omega, .inr ⟨g, cap, cur, rfl, hb, hh, by omega, hcm, hcs, ?_⟩⟩
  rw [← htake, List.take_take, Nat.min_eq_left hle]
theorem grownBy_after {w wr w' : World} {r r' : Option Nat} (h : w.grownBy wr r) (k : wr.grownBy w' r') (hr : ∀ g, r' = some g → r = some g ∨ w.heap.size ≤ g) : w.grownBy w' r :=
  ⟨k.os.trans h.os, k.tape.trans h.tape, k.output.trans h.output, Nat.le_trans h.size k.size, fun q hq hn => by
    rw [k.block q (Nat.lt_of_lt_of_le hq h.size) fun e => by
      rcases hr q e.symm with g | g
      · exact hn g.symm
      · omega]
    exact h.block q hq hn⟩
theorem grown_none {w w' : World} (h : Below w.heap.size w w') (r : Option Nat) : w.grownBy w' r := ⟨h.os, h.tape, h.output, h.size, fun q hq _ => h.block q hq⟩
/-- spoilt, under way: S is the list that is spoilt. -/
structure SpS (t sz : Nat) (w wr : World) (S : Value) (n : Nat) : Prop where
  own : ∃ zs : List Value, wr.ownsRow 0 t sz S n zs
  gr : w.grownBy wr S.ownBlock
  lt : ∀ g, S.ownBlock = some g → g < w.heap.size
variable {t sz st n N m c : Nat} {w wr w' : World} {S T : Value}
theorem SpS.start {ys : List Value} {base : Nat} (ho : w.ownsRow base t sz S n ys) : SpS t sz w w S n := ⟨⟨ys, own_lessB ho (Nat.zero_le _)⟩, grown_none (Below.refl _ _) _, fun g hg => (World.ownsRow.lt ho g hg).2⟩
theorem SpS.other {r : Option Nat} (h : SpS t sz w wr S n) (k : wr.grownBy w' r) (hr : ∀ g, r = some g → w.heap.size ≤ g) : SpS t sz w w' S n := by
  obtain ⟨zs, ho⟩ := h.own
  refine ⟨⟨zs, own_keep ho fun g hg => k.block g (World.ownsRow.lt ho g hg).2 fun e => ?_⟩, grownBy_after h.gr k fun g hg => .inr (hr g hg), h.lt⟩
  have := h.lt g hg
  have := hr g e.symm
  omega
theorem SpS.later (h : SpS t sz w wr S n) (hb : Below wr.heap.size wr w') : SpS t sz w w' S n := h.other (grown_none hb none) fun g hg => by cases hg
/-- A block that is not the list's is as it was. -/
theorem SpS.block (h : SpS t sz w wr S n) {q : Nat} (hq : q < w.heap.size) (hn : S.ownBlock ≠ some q) : wr.heap[q]? = w.heap[q]? := h.gr.block q hq fun e => hn e.symm
theorem SpS.set {g cap j : Nat} (h : SpS t sz w wr (.slice (some ⟨g, 0, none⟩) n cap) n) (u : Value) : SpS t sz w (wr.setCell ⟨g, j, none⟩ u) (.slice (some ⟨g, 0, none⟩) n cap) n := by
  obtain ⟨zs, ho⟩ := h.own
  have h1 := (World.ownsRow.stored ho j u).1
  have hset : wr.grownBy (wr.setCell ⟨g, j, none⟩ u) (some g) := ⟨rfl, rfl, rfl, by simp [World.setCell], fun k _ hn => Below.heap_setCell _ _ _ _ (fun e => hn (by rw [e]))⟩
  exact ⟨⟨_, h1⟩, grownBy_after h.gr hset fun q hq => .inl hq, h.lt⟩
theorem SpS.facts {g cap : Nat} (h : SpS t sz w wr (.slice (some ⟨g, 0, none⟩) n cap) n) : (∀ j, j < n * sz → ∃ v, wr.cell? ⟨g, j, none⟩ = some v) ∧ ∀ j, wr.frozen? ⟨g, j, none⟩ = false := by
  obtain ⟨zs, ho⟩ := h.own
  exact ⟨fun j hj => ⟨_, (World.ownsRow.cellAt ho j hj).trans (List.getElem?_eq_getElem (by rw [ho.1]; exact hj))⟩, fun j => World.ownsRow.frozenAt ho j⟩
theorem SpS.some (h : SpS t sz w wr S n) (hn : 0 < n) : ∃ g cap, S = .slice (some ⟨g, 0, none⟩) n cap := by
  obtain ⟨zs, ho⟩ := h.own
  rcases ho.2 with ⟨_, h0⟩ | ⟨g, cap, cur, e, _⟩
  · omega
  · exact ⟨g, cap, e⟩
/-- A list that grows out of S, or one in new memory. -/
structure SpT (t sz : Nat) (w wr : World) (S : Value) (n : Nat) (T : Value) (N : Nat) : Prop where
  own : ∃ zs : List Value, wr.ownsRow 0 t sz T N zs
  rel : (∃ g cap, S = .slice (some ⟨g, 0, none⟩) n cap ∧ T = .slice (some ⟨g, 0, none⟩) N cap ∧ n ≤ N) ∨ ∀ g, T.ownBlock = Option.some g → w.heap.size ≤ g
theorem SpT.later (h : SpT t sz w wr S n T N) (hb : Below wr.heap.size wr w') : SpT t sz w w' S n T N := by
  obtain ⟨zs, ho⟩ := h.own
  exact ⟨⟨zs, own_later ho hb⟩, h.rel⟩
theorem SpT.slice (h : SpT t sz w wr S n T N) : ∃ a c, T = .slice a N c := by
  obtain ⟨zs, ho⟩ := h.own
  exact own_slice ho
/-- append of some to such a list. -/
theorem SpT.app {ys : List Value} (hA : AppOk st t sz) (hS : SpS t sz w wr S n) (h : SpT t sz w wr S n T N) (ty : TypeId) (a : Addr) (hm : ys.length = m * sz) (hc : ∀ j u, ys[j]? = some u → wr.cell? (a.add j) = some u) (hone : ∀ u ∈ ys, u.oneCell' = true) (hl : N + m ≤ 4194304) (hm0 : 0 < m) :
    ∃ T' w', (Builtin.append_ #[st, st] ty #[T, .slice (some a) m c]).run Tryz.prog wr = .ok T' w' ∧ SpS t sz w w' S n ∧ SpT t sz w w' S n T' (N + m) ∧ ((∀ g, T.ownBlock = Option.some g → w.heap.size ≤ g) → ∀ g, T'.ownBlock = Option.some g → w.heap.size ≤ g) := by
  obtain ⟨zs, ho⟩ := h.own
  obtain ⟨T', w', hr, h2, h3⟩ := hA wr 0 N m c T zs ys ty a ho hm hc hone hl hm0 (Nat.zero_le _)
  refine ⟨T', w', hr, ?_, ⟨⟨zs ++ ys, h2⟩, ?_⟩, fun hT g hg => ?_⟩
  · rcases h3 with ⟨g, cap, e1, e2, hg⟩ | ⟨_, hb⟩
    · rcases h.rel with ⟨g', cap', e3, e4, hn⟩ | hnew
      · rw [e1] at e4
        cases e4
        rw [e2] at h2
        refine ⟨⟨(zs ++ ys).take (n * sz), ?_⟩, grownBy_after hS.gr hg fun q hq => .inl (by rw [e3]; exact hq), hS.lt⟩
        rw [e3]
        exact own_pre h2 (by omega)
      · exact hS.other hg fun q hq => hnew q (by rw [e1]; exact hq)
    · exact hS.later hb
  · rcases h3 with ⟨g, cap, e1, e2, hg⟩ | ⟨hnew, hb⟩
    · rcases h.rel with ⟨g', cap', e3, e4, hn⟩ | hnew
      · rw [e1] at e4
        cases e4
        exact .inl ⟨g, cap, e3, e2, by omega⟩
      · exact .inr fun q hq => hnew q (by rw [e1]; rw [e2] at hq; exact hq)
    · refine .inr fun q hq => ?_
      have h7 := hnew q hq
      have h8 := hS.gr.size
      omega
  · rcases h3 with ⟨g', cap, e1, e2, _⟩ | ⟨hnew, hb⟩
    · exact hT g (by rw [e1]; rw [e2] at hg; exact hg)
    · have h7 := hnew g hg
      have h8 := hS.gr.size
      omega
theorem SpT.self (h : SpS t sz w wr S n) : SpT t sz w wr S n S n := by
  obtain ⟨zs, ho⟩ := h.own
  refine ⟨⟨zs, ho⟩, ?_⟩
  rcases ho.2 with ⟨e, _⟩ | ⟨g, cap, cur, e, _⟩
  · right
    rw [e]; intro g hg; cases hg
  · exact .inl ⟨g, cap, e, e, Nat.le_refl _⟩
/-- The many that are appended at last. -/
def Mm (t sz : Nat) (w wr : World) (M : Value) (q : Nat) : Prop := ∃ zs : List Value, wr.ownsRow 0 t sz M q zs ∧ (∀ u ∈ zs, u.oneCell' = true) ∧ ∀ g, M.ownBlock = Option.some g → w.heap.size ≤ g
theorem Mm.nil : Mm t sz w wr (.slice none 0 0) 0 := ⟨[], own_none, (fun u hu => by cases hu), (fun g hg => by cases hg)⟩
theorem Mm.slice {M : Value} {q : Nat} (h : Mm t sz w wr M q) : ∃ a c, M = .slice a q c := by
  obtain ⟨zs, ho, _⟩ := h
  exact own_slice ho
/-- One more: it lies in new memory, in the world W1. -/
theorem Mm.step {M : Value} {q : Nat} {W1 : World} {ys : List Value} (hA : AppOk st t sz) (hS : SpS t sz w wr S n) (h : Mm t sz w wr M q) (hb : Below wr.heap.size wr W1) (ty : TypeId) (a : Addr) (hm : ys.length = 1 * sz) (hc : ∀ j u, ys[j]? = some u → W1.cell? (a.add j) = some u) (hone : ∀ u ∈ ys, u.oneCell' = true) (hl : q + 1 ≤ 4194304) :
    ∃ M' w', (Builtin.append_ #[st, st] ty #[M, .slice (some a) 1 c]).run Tryz.prog W1 = .ok M' w' ∧ SpS t sz w w' S n ∧ Mm t sz w w' M' (q + 1) := by
  obtain ⟨zs, ho, h1, h2⟩ := h
  obtain ⟨M', w', hr, h3, h4⟩ := hA W1 0 q 1 c M zs ys ty a (own_later ho hb) hm hc hone hl (by omega) (Nat.zero_le _)
  have hS1 := hS.later hb
  refine ⟨M', w', hr, ?_, zs ++ ys, h3, fun u hu => (List.mem_append.1 hu).elim (h1 u) (hone u), fun g hg => ?_⟩
  · rcases h4 with ⟨g, cap, e1, e2, hg⟩ | ⟨_, hb2⟩
    · exact hS1.other hg fun z hz => h2 z (by rw [e1]; exact hz)
    · exact hS1.later hb2
  · rcases h4 with ⟨g', cap, e1, e2, _⟩ | ⟨hnew, hb2⟩
    · exact h2 g (by rw [e1]; rw [e2] at hg; exact hg)
    · have h7 := hnew g hg
      have h8 := hS1.gr.size
      omega
/-- The last append. -/
theorem Mm.last {M : Value} {q cM : Nat} {aM : Option Addr} (hA : AppOk st t sz) (hS : SpS t sz w wr S n) (h : Mm t sz w wr (.slice aM q cM) q) (hq : 0 < q) (ty : TypeId) (hl : n + q ≤ 4194304) :
    ∃ M' w', (Builtin.append_ #[st, st] ty #[S, .slice aM q cM]).run Tryz.prog wr = .ok M' w' ∧ w.grownBy w' S.ownBlock := by
  obtain ⟨zs, ho, h1, h2⟩ := h
  obtain ⟨gM, rfl⟩ : ∃ gM, aM = some ⟨gM, 0, none⟩ := by
    rcases ho.2 with ⟨e, h0⟩ | ⟨g, cap, cur, e, _⟩
    · omega
    · injection e with e1 _ _; exact ⟨g, e1⟩
  obtain ⟨T', w', hr, h3, _⟩ := SpT.app (c := cM) hA hS (SpT.self hS) ty ⟨gM, 0, none⟩ (ys := zs) (m := q) ho.1 (ho.cells (g := gM) rfl) h1 hl hq
  exact ⟨T', w', hr, h3.gr⟩
theorem wp_app_run {o : Oper} {a : Act} {w : World} {K : Act → World → Prop} {Q : Exit → Act → World → Prop} (d x : Operand) (st : TypeId) (hop : o.op = Op.call { callee := Callee.builtin Builtin.append, args := #[d, x], argTypes := #[st, st] })
    (s u : Value) (hd : a.eval d = s) (hx : a.eval x = u) {v' : Value} {w' : World} (hr : (Builtin.append_ #[st, st] o.type #[s, u]).run Tryz.prog w = .ok v' w') (h : K (a.put o.dst v') w') : o.wp Tryz.prog a w K Q := by
  unfold Oper.wp execOp
  simp only [hop, resolve, invoke, builtin, Sem.run_bind, Sem.run_pure, Result.andThen_ok, List.map_toArray, List.map_cons, List.map_nil, hd, hx, hr]
  exact h
theorem wpList_app_run {ops : Array Oper} {rest : List Oper} {o : Oper} {a : Act} {w : World} {Q : Exit → Act → World → Prop} (hgd : o.guard = none) (d x : Operand) (st : TypeId) (hop : o.op = Op.call { callee := Callee.builtin Builtin.append, args := #[d, x], argTypes := #[st, st] })
    (s u : Value) (hd : a.eval d = s) (hx : a.eval x = u) {v' : Value} {w' : World} (hr : (Builtin.append_ #[st, st] o.type #[s, u]).run Tryz.prog w = .ok v' w') (h : wpList Tryz.prog ops Q rest (a.put o.dst v') w') : wpList Tryz.prog ops Q (o :: rest) a w :=
  wpList_plain hgd fun _ hK => wp_app_run d x st hop s u hd hx hr (hK _ _ h)
end Go.Proofs.YtbdkpkpncmagoaaGreat
set_option linter.unusedSimpArgs false
set_option linter.unusedVariables false
set_option maxRecDepth 100000
namespace Go.Proofs.YtbdkpkpncmagoaaGreat
open Go.RowKit Go.Sort

set_option maxHeartbeats 4000000 in
theorem spoiltV {w : World} {base n : Nat} {S : Value} {ys : List Value} (ho : w.ownsRow base 42 3 S n ys) (hl : n ≤ 2097152) (v : Val) : Calls Tryz.prog 13 #[S, .agg #[.int .i64 v.k, .int .i64 v.n, .string v.s]] w fun e w' => e = .returned (.tuple #[]) ∧ w.grownBy w' S.ownBlock := by
  obtain ⟨W, hW⟩ : ∃ W, w.alloc (.cells #[.int .i64 v.k, .int .i64 v.n, .string v.s] 42) = W := ⟨_, rfl⟩
  have hBW : Below w.heap.size w W := by rw [← hW]; exact below_alloc (Below.refl _ _) _
  have HS0 : Hid (SpS 42 3 W W S n) := SpS.start (own_later ho hBW)
  have HBW := hide hBW
  have HBX : Hid (∀ wr, SpS 42 3 W wr S n → wr.cell? ⟨w.heap.size, 0, none⟩ = some (.int .i64 v.k) ∧ wr.cell? ⟨w.heap.size, 1, none⟩ = some (.int .i64 v.n) ∧ wr.cell? ⟨w.heap.size, 2, none⟩ = some (.string v.s)) := fun wr h => by
    have hk := h.block (q := w.heap.size) (by rw [← hW]; show w.heap.size < (w.heap.push _).size; rw [Array.size_push]; omega) fun e => by have := (World.ownsRow.lt ho _ e).2; omega
    have hc : ∀ j, wr.cell? ⟨w.heap.size, j, none⟩ = W.cell? ⟨w.heap.size, j, none⟩ := fun j => by unfold World.cell?; rw [hk]
    rw [hc, hc, hc, ← hW]
    exact ⟨by simp [go_sem], by simp [go_sem], by simp [go_sem]⟩
  have HGB : Hid (∀ g, S.ownBlock = some g → g ≠ w.heap.size) := fun g hg e => by have := (World.ownsRow.lt ho _ hg).2; omega
  obtain ⟨aS, cS, hS⟩ := own_slice ho
  subst hS
  clear ho hBW
  obtain ⟨bx, hbx⟩ : ∃ bx, w.heap.size = bx := ⟨_, rfl⟩
  rw [hbx] at HBX HGB
  have HAP := hide app_okV
  have HC1 : Hid (∀ (W : World) j u, (c3 v)[j]? = some u → (W.alloc (.cells #[.int .i64 v.k, .int .i64 v.n, .string v.s] 42)).cell? ((⟨W.heap.size, 0, none⟩ : Addr).add j) = some u) := fun W j u hu => by
    rw [Addr.add_lit]
    match j, hu with
    | 0, hu => simp [c3] at hu; subst hu; simp [go_sem]
    | 1, hu => simp [c3] at hu; subst hu; simp [go_sem]
    | 2, hu => simp [c3] at hu; subst hu; simp [go_sem]
    | j + 3, hu => simp [c3] at hu
  have HO1 : Hid (∀ u ∈ c3 v, u.oneCell' = true) := c3_one v
  go_enter Tryz.func13, Tryz.ntmps13
  go_wp2_with fail
  go_loopw [11] (fun s11 wr => ∃ i : Nat, s11 = .int .i64 (i : Int) ∧ i ≤ n ∧ Hid (SpS 42 3 W wr (.slice aS n cS) n)) (fun s _ => n - (intOf s).toNat)
  case atStart => exact ⟨0, rfl, Nat.zero_le _, HS0⟩
  case round =>
    obtain ⟨i, rfl, hin, HS⟩ := hrel
    clear HS0
    by_cases hi : i < n
    · obtain ⟨g, cap, hg⟩ := (unhide HS).some (by omega)
      injection hg with hg _ hcap
      subst hg hcap
      obtain ⟨ec, ez⟩ := (unhide HS).facts
      obtain ⟨y0, e0⟩ := ec (i * 3) (by omega)
      obtain ⟨y1, e1⟩ := ec (i * 3 + 1) (by omega)
      obtain ⟨y2, e2⟩ := ec (i * 3 + 2) (by omega)
      have z0 := ez (i * 3)
      have z1 := ez (i * 3 + 1)
      have z2 := ez (i * 3 + 2)
      have hgb := unhide HGB g rfl
      obtain ⟨b0, b1, b2⟩ := unhide HBX wr (unhide HS)
      have HS2 := hide ((((unhide HS).set (j := i * 3) (.int .i64 v.k)).set (j := i * 3 + 1) (.int .i64 v.n)).set (j := i * 3 + 2) (.string v.s))
      have i1 : (i : Int) < (n : Int) := by omega
      clear ez ec
      go_wp2
      go_roundw
      case rel => exact ⟨i + 1, by go_num, by omega, HS2⟩
      case measure => simp [intOf]; omega
    · obtain rfl : i = n := by omega
      have HT0 := hide (SpT.self (unhide HS))
      go_wp2_with fail
      go_loopw [5, 6] (fun s5 s6 wq => ∃ (j : Nat) (T : Value), s5 = T ∧ s6 = .int .i64 (j : Int) ∧ j ≤ 20 ∧ Hid (SpS 42 3 W wq (.slice aS i cS) i) ∧ Hid (SpT 42 3 W wq (.slice aS i cS) i T (i + j))) (fun _ s _ => 20 - (intOf s).toNat)
      case atStart => exact ⟨0, _, rfl, rfl, Nat.zero_le _, HS, HT0⟩
      case round =>
        obtain ⟨j, T, rfl, rfl, hj, HQ, HT⟩ := hrel
        clear HS HT0
        obtain ⟨aT, cT, hT⟩ := (unhide HT).slice
        subst hT
        by_cases hj2 : j < 20
        · obtain ⟨b0, b1, b2⟩ := unhide HBX wr (unhide HQ)
          have hb : Below wr.heap.size wr (wr.alloc (.cells #[.int .i64 v.k, .int .i64 v.n, .string v.s] 42)) := below_alloc (Below.refl _ _) _
          obtain ⟨T', w', hrun, hQ', hT', _⟩ := SpT.app (c := 1) (unhide HAP) ((unhide HQ).later hb) ((unhide HT).later hb) 34 ⟨wr.heap.size, 0, none⟩ (m := 1) (ys := c3 v) rfl (unhide HC1 wr) (unhide HO1) (by omega) (by omega)
          have HQ' := hide hQ'
          have HT' := hide hT'
          have i1 : (j : Int) < 20 := by omega
          clear hQ' hT' hb
          go_wp2_with (at_builtin; refine wpList_app_run rfl (.tmp 24) (.tmp 26) 34 rfl _ _ rfl rfl hrun ?_)
          go_roundw
          case rel => exact ⟨j + 1, T', rfl, by go_num, by omega, HQ', HT'⟩
          case measure => simp [intOf]; omega
        · have i1 : ¬ (j : Int) < 20 := by omega
          clear HT
          go_wp2_with fail
          go_loopw [7, 8] (fun s7 s8 wq => ∃ (j : Nat) (M : Value), M = s7 ∧ s8 = .int .i64 (j : Int) ∧ j ≤ 64 ∧ Hid (SpS 42 3 W wq (.slice aS i cS) i) ∧ Hid (Mm 42 3 W wq M j)) (fun _ s _ => 64 - (intOf s).toNat)
          case atStart => exact ⟨0, _, rfl, rfl, Nat.zero_le _, HQ, Mm.nil⟩
          case round =>
            obtain ⟨q, M, rfl, rfl, hq, HR, HM⟩ := hrel
            clear HQ i1
            obtain ⟨aM, cM, hMs⟩ := (unhide HM).slice
            subst hMs
            by_cases hq2 : q < 64
            · obtain ⟨b0, b1, b2⟩ := unhide HBX wr (unhide HR)
              have hb : Below wr.heap.size wr (wr.alloc (.cells #[.int .i64 v.k, .int .i64 v.n, .string v.s] 42)) := below_alloc (Below.refl _ _) _
              obtain ⟨M', w', hrun, hR', hM'⟩ := Mm.step (c := 1) (unhide HAP) (unhide HR) (unhide HM) hb 34 ⟨wr.heap.size, 0, none⟩ (ys := c3 v) rfl (unhide HC1 wr) (unhide HO1) (by omega)
              have HR' := hide hR'
              have HM' := hide hM'
              have i1 : (q : Int) < 64 := by omega
              clear hR' hM' hb
              go_wp2_with (at_builtin; refine wpList_app_run rfl (.tmp 32) (.tmp 34) 34 rfl _ _ rfl rfl hrun ?_)
              go_roundw
              case rel => exact ⟨q + 1, M', rfl, by go_num, by omega, HR', HM'⟩
              case measure => simp [intOf]; omega
            · obtain rfl : q = 64 := by omega
              obtain ⟨T', w', hrun, hF⟩ := Mm.last (M := .slice aM 64 cM) (unhide HAP) (unhide HR) (unhide HM) (by omega) 34 (by omega)
              have HF := hide hF
              clear hF
              go_wp2_with (at_builtin; refine wpList_app_run rfl (.tmp 36) (.tmp 37) 34 rfl _ _ rfl rfl hrun ?_)
              go_end0
              exact ⟨rfl, grownBy_after (grown_none (unhide HBW) _) (unhide HF) fun g hg => .inl hg⟩
end Go.Proofs.YtbdkpkpncmagoaaGreat
set_option linter.unusedSimpArgs false
set_option linter.unusedVariables false
set_option maxRecDepth 100000
namespace Go.Proofs.YtbdkpkpncmagoaaGreat
open Go.RowKit Go.Sort

/-- append([]T{}, l...): a copy in new memory. -/
def CopyOk (st t sz : Nat) : Prop := ∀ (W : World) (m c : Nat) (a : Option Addr) (ys : List Value) (ty : TypeId), ys.length = m * sz → (m = 0 ∨ ∃ ad, a = some ad ∧ ∀ j u, ys[j]? = some u → W.cell? (ad.add j) = some u) → (∀ u ∈ ys, u.oneCell' = true) → (a = none → c = 0) → m ≤ 4194304 →
    ∃ T w', (Builtin.append_ #[st, st] ty #[.slice (some ⟨W.heap.size, 0, none⟩) 0 0, .slice a m c]).run Tryz.prog (W.alloc (.cells #[] t)) = .ok T w' ∧ w'.ownsRow W.heap.size t sz T m ys ∧ Below W.heap.size W w'
theorem copy_okB : CopyOk 45 4 1 := by
  intro W m c a ys ty hyl hc hone hn hl
  obtain ⟨i2, hi2, z20, z21, z22⟩ := info_parts Tryz.info4
  have hE : (W.alloc (.cells #[] 4)).ownsRow W.heap.size 4 1 (.slice (some ⟨W.heap.size, 0, none⟩) 0 0) 0 [] :=
    ⟨rfl, .inr ⟨W.heap.size, 0, #[], rfl, Nat.le_refl _, by show (W.heap.push _)[W.heap.size]? = _; rw [Array.getElem?_push_size], Nat.le_refl _, Nat.zero_le _, rfl, rfl⟩⟩
  have hb : Below W.heap.size W (W.alloc (.cells #[] 4)) := below_alloc (Below.refl _ _) _
  cases a with
  | none =>
    obtain rfl : m = 0 := by
      rcases hc with h | ⟨ad, h, _⟩
      · exact h
      · cases h
    obtain rfl : ys = [] := List.eq_nil_of_length_eq_zero (by omega)
    obtain rfl := hn rfl
    exact ⟨_, _, run_append_owned_none (P := Tryz.prog) _ W.heap.size 45 ty 4 i2 1 Tryz.underlying45 hi2 _ 0 [] hE, hE, hb⟩
  | some ad =>
    have hcells : ∀ j u, ys[j]? = some u → (W.alloc (.cells #[] 4)).cell? (ad.add j) = some u := by
      rcases hc with h | ⟨ad', h, h2⟩
      · obtain rfl : ys = [] := List.eq_nil_of_length_eq_zero (by simp [hyl, h])
        intro j u hu; simp at hu
      · injection h with h
        subst h
        exact fun j u hu => cell_later hb (h2 j u hu)
    obtain ⟨T, w', hr, h2, h3, _, h5⟩ := run_append_own_at (P := Tryz.prog) (w := W.alloc (.cells #[] 4)) W.heap.size 45 ty 4 i2 (.bool false) 1 1 Tryz.underlying45 hi2 z20 z21 z22 rfl (by decide) _ 0 [] hE ad m c ys hyl hcells hone (by unfold maxLen; omega) (by omega) hb.size
    rw [Nat.zero_add, List.nil_append] at h2
    refine ⟨T, w', hr, h2, ?_⟩
    refine ⟨h3.os.trans hb.os, h3.tape.trans hb.tape, h3.output.trans hb.output, Nat.le_trans hb.size h3.size, fun q hq => ?_⟩
    rw [h3.block q (Nat.lt_of_lt_of_le hq hb.size) (by simp [Value.ownBlock]; omega)]
    exact hb.block q hq
theorem copy_okI : CopyOk 22 3 1 := by
  intro W m c a ys ty hyl hc hone hn hl
  obtain ⟨i2, hi2, z20, z21, z22⟩ := info_parts Tryz.info3
  have hE : (W.alloc (.cells #[] 3)).ownsRow W.heap.size 3 1 (.slice (some ⟨W.heap.size, 0, none⟩) 0 0) 0 [] :=
    ⟨rfl, .inr ⟨W.heap.size, 0, #[], rfl, Nat.le_refl _, by show (W.heap.push _)[W.heap.size]? = _; rw [Array.getElem?_push_size], Nat.le_refl _, Nat.zero_le _, rfl, rfl⟩⟩
  have hb : Below W.heap.size W (W.alloc (.cells #[] 3)) := below_alloc (Below.refl _ _) _
  cases a with
  | none =>
    obtain rfl : m = 0 := by
      rcases hc with h | ⟨ad, h, _⟩
      · exact h
      · cases h
    obtain rfl : ys = [] := List.eq_nil_of_length_eq_zero (by omega)
    obtain rfl := hn rfl
    exact ⟨_, _, run_append_owned_none (P := Tryz.prog) _ W.heap.size 22 ty 3 i2 1 Tryz.underlying22 hi2 _ 0 [] hE, hE, hb⟩
  | some ad =>
    have hcells : ∀ j u, ys[j]? = some u → (W.alloc (.cells #[] 3)).cell? (ad.add j) = some u := by
      rcases hc with h | ⟨ad', h, h2⟩
      · obtain rfl : ys = [] := List.eq_nil_of_length_eq_zero (by simp [hyl, h])
        intro j u hu; simp at hu
      · injection h with h
        subst h
        exact fun j u hu => cell_later hb (h2 j u hu)
    obtain ⟨T, w', hr, h2, h3, _, h5⟩ := run_append_own_at (P := Tryz.prog) (w := W.alloc (.cells #[] 3)) W.heap.size 22 ty 3 i2 (.int .i64 0) 1 8 Tryz.underlying22 hi2 z20 z21 z22 rfl (by decide) _ 0 [] hE ad m c ys hyl hcells hone (by unfold maxLen; omega) (by omega) hb.size
    rw [Nat.zero_add, List.nil_append] at h2
    refine ⟨T, w', hr, h2, ?_⟩
    refine ⟨h3.os.trans hb.os, h3.tape.trans hb.tape, h3.output.trans hb.output, Nat.le_trans hb.size h3.size, fun q hq => ?_⟩
    rw [h3.block q (Nat.lt_of_lt_of_le hq hb.size) (by simp [Value.ownBlock]; omega)]
    exact hb.block q hq
theorem copy_okL : CopyOk 46 2 1 := by
  intro W m c a ys ty hyl hc hone hn hl
  obtain ⟨i2, hi2, z20, z21, z22⟩ := info_parts Tryz.info2
  have hE : (W.alloc (.cells #[] 2)).ownsRow W.heap.size 2 1 (.slice (some ⟨W.heap.size, 0, none⟩) 0 0) 0 [] :=
    ⟨rfl, .inr ⟨W.heap.size, 0, #[], rfl, Nat.le_refl _, by show (W.heap.push _)[W.heap.size]? = _; rw [Array.getElem?_push_size], Nat.le_refl _, Nat.zero_le _, rfl, rfl⟩⟩
  have hb : Below W.heap.size W (W.alloc (.cells #[] 2)) := below_alloc (Below.refl _ _) _
  cases a with
  | none =>
    obtain rfl : m = 0 := by
      rcases hc with h | ⟨ad, h, _⟩
      · exact h
      · cases h
    obtain rfl : ys = [] := List.eq_nil_of_length_eq_zero (by omega)
    obtain rfl := hn rfl
    exact ⟨_, _, run_append_owned_none (P := Tryz.prog) _ W.heap.size 46 ty 2 i2 1 Tryz.underlying46 hi2 _ 0 [] hE, hE, hb⟩
  | some ad =>
    have hcells : ∀ j u, ys[j]? = some u → (W.alloc (.cells #[] 2)).cell? (ad.add j) = some u := by
      rcases hc with h | ⟨ad', h, h2⟩
      · obtain rfl : ys = [] := List.eq_nil_of_length_eq_zero (by simp [hyl, h])
        intro j u hu; simp at hu
      · injection h with h
        subst h
        exact fun j u hu => cell_later hb (h2 j u hu)
    obtain ⟨T, w', hr, h2, h3, _, h5⟩ := run_append_own_at (P := Tryz.prog) (w := W.alloc (.cells #[] 2)) W.heap.size 46 ty 2 i2 (.int .i64 0) 1 8 Tryz.underlying46 hi2 z20 z21 z22 rfl (by decide) _ 0 [] hE ad m c ys hyl hcells hone (by unfold maxLen; omega) (by omega) hb.size
    rw [Nat.zero_add, List.nil_append] at h2
    refine ⟨T, w', hr, h2, ?_⟩
    refine ⟨h3.os.trans hb.os, h3.tape.trans hb.tape, h3.output.trans hb.output, Nat.le_trans hb.size h3.size, fun q hq => ?_⟩
    rw [h3.block q (Nat.lt_of_lt_of_le hq hb.size) (by simp [Value.ownBlock]; omega)]
    exact hb.block q hq
theorem copy_okT : CopyOk 47 9 1 := by
  intro W m c a ys ty hyl hc hone hn hl
  obtain ⟨i2, hi2, z20, z21, z22⟩ := info_parts Tryz.info9
  have hE : (W.alloc (.cells #[] 9)).ownsRow W.heap.size 9 1 (.slice (some ⟨W.heap.size, 0, none⟩) 0 0) 0 [] :=
    ⟨rfl, .inr ⟨W.heap.size, 0, #[], rfl, Nat.le_refl _, by show (W.heap.push _)[W.heap.size]? = _; rw [Array.getElem?_push_size], Nat.le_refl _, Nat.zero_le _, rfl, rfl⟩⟩
  have hb : Below W.heap.size W (W.alloc (.cells #[] 9)) := below_alloc (Below.refl _ _) _
  cases a with
  | none =>
    obtain rfl : m = 0 := by
      rcases hc with h | ⟨ad, h, _⟩
      · exact h
      · cases h
    obtain rfl : ys = [] := List.eq_nil_of_length_eq_zero (by omega)
    obtain rfl := hn rfl
    exact ⟨_, _, run_append_owned_none (P := Tryz.prog) _ W.heap.size 47 ty 9 i2 1 Tryz.underlying47 hi2 _ 0 [] hE, hE, hb⟩
  | some ad =>
    have hcells : ∀ j u, ys[j]? = some u → (W.alloc (.cells #[] 9)).cell? (ad.add j) = some u := by
      rcases hc with h | ⟨ad', h, h2⟩
      · obtain rfl : ys = [] := List.eq_nil_of_length_eq_zero (by simp [hyl, h])
        intro j u hu; simp at hu
      · injection h with h
        subst h
        exact fun j u hu => cell_later hb (h2 j u hu)
    obtain ⟨T, w', hr, h2, h3, _, h5⟩ := run_append_own_at (P := Tryz.prog) (w := W.alloc (.cells #[] 9)) W.heap.size 47 ty 9 i2 (.string ⟨#[]⟩) 1 16 Tryz.underlying47 hi2 z20 z21 z22 rfl (by decide) _ 0 [] hE ad m c ys hyl hcells hone (by unfold maxLen; omega) (by omega) hb.size
    rw [Nat.zero_add, List.nil_append] at h2
    refine ⟨T, w', hr, h2, ?_⟩
    refine ⟨h3.os.trans hb.os, h3.tape.trans hb.tape, h3.output.trans hb.output, Nat.le_trans hb.size h3.size, fun q hq => ?_⟩
    rw [h3.block q (Nat.lt_of_lt_of_le hq hb.size) (by simp [Value.ownBlock]; omega)]
    exact hb.block q hq
theorem copy_okV : CopyOk 34 42 3 := by
  intro W m c a ys ty hyl hc hone hn hl
  obtain ⟨i2, hi2, z20, z21, z22⟩ := info_parts Tryz.info42
  have hE : (W.alloc (.cells #[] 42)).ownsRow W.heap.size 42 3 (.slice (some ⟨W.heap.size, 0, none⟩) 0 0) 0 [] :=
    ⟨rfl, .inr ⟨W.heap.size, 0, #[], rfl, Nat.le_refl _, by show (W.heap.push _)[W.heap.size]? = _; rw [Array.getElem?_push_size], Nat.le_refl _, Nat.zero_le _, rfl, rfl⟩⟩
  have hb : Below W.heap.size W (W.alloc (.cells #[] 42)) := below_alloc (Below.refl _ _) _
  cases a with
  | none =>
    obtain rfl : m = 0 := by
      rcases hc with h | ⟨ad, h, _⟩
      · exact h
      · cases h
    obtain rfl : ys = [] := List.eq_nil_of_length_eq_zero (by omega)
    obtain rfl := hn rfl
    exact ⟨_, _, run_append_owned_none (P := Tryz.prog) _ W.heap.size 34 ty 42 i2 3 Tryz.underlying34 hi2 _ 0 [] hE, hE, hb⟩
  | some ad =>
    have hcells : ∀ j u, ys[j]? = some u → (W.alloc (.cells #[] 42)).cell? (ad.add j) = some u := by
      rcases hc with h | ⟨ad', h, h2⟩
      · obtain rfl : ys = [] := List.eq_nil_of_length_eq_zero (by simp [hyl, h])
        intro j u hu; simp at hu
      · injection h with h
        subst h
        exact fun j u hu => cell_later hb (h2 j u hu)
    obtain ⟨T, w', hr, h2, h3, _, h5⟩ := run_append_own_at (P := Tryz.prog) (w := W.alloc (.cells #[] 42)) W.heap.size 34 ty 42 i2 (.agg #[.int .i64 0, .int .i64 0, .string ⟨#[]⟩]) 3 32 Tryz.underlying34 hi2 z20 z21 z22 rfl (by decide) _ 0 [] hE ad m c ys hyl hcells hone (by unfold maxLen; omega) (by omega) hb.size
    rw [Nat.zero_add, List.nil_append] at h2
    refine ⟨T, w', hr, h2, ?_⟩
    refine ⟨h3.os.trans hb.os, h3.tape.trans hb.tape, h3.output.trans hb.output, Nat.le_trans hb.size h3.size, fun q hq => ?_⟩
    rw [h3.block q (Nat.lt_of_lt_of_le hq hb.size) (by simp [Value.ownBlock]; omega)]
    exact hb.block q hq

theorem row_cellsM {w : World} {a : Option Addr} {xs : List Val} (h : RowAt w a xs) : xs.length = 0 ∨ ∃ ad, a = some ad ∧ ∀ j u, (xs.flatMap c3)[j]? = some u → w.cell? (ad.add j) = some u := by
  rcases h with h | ⟨b, off, e, h⟩
  · exact .inl (by rw [h]; rfl)
  · refine .inr ⟨⟨b, off, none⟩, e, fun j u hu => ?_⟩
    have hj : j < xs.length * 3 := by have := (List.getElem?_eq_some_iff.1 hu).1; rw [flat_len] at this; exact this
    have ej : j = (j / 3) * 3 + j % 3 := by omega
    have hx : xs[j / 3]? = some (xs[j / 3]'(by omega)) := List.getElem?_eq_getElem (by omega)
    obtain ⟨f0, f1, f2⟩ := h (j / 3) _ hx
    have hfl := flat_at xs (j / 3) (j % 3) _ hx (by omega)
    rw [← ej, hu] at hfl
    have ea : (⟨b, off, none⟩ : Addr).add j = ⟨b, off + j, none⟩ := by by_cases h : j = 0 <;> simp [Addr.add, h]
    rw [ea]
    have h3 : j % 3 = 0 ∨ j % 3 = 1 ∨ j % 3 = 2 := by omega
    rcases h3 with h3 | h3 | h3
    · rw [h3] at hfl ej; simp [c3] at hfl; rw [hfl, ← f0]; congr 2; omega
    · rw [h3] at hfl ej; simp [c3] at hfl; rw [hfl, ← f1]; congr 2; omega
    · rw [h3] at hfl ej; simp [c3] at hfl; rw [hfl, ← f2]; congr 2; omega
theorem lis_cells {w : World} {a : Option Addr} {cs : List Value} (h : LisAt w a cs) : cs.length = 0 ∨ ∃ ad, a = some ad ∧ ∀ j u, cs[j]? = some u → w.cell? (ad.add j) = some u := by
  rcases h with h | ⟨b, off, e, h⟩
  · exact .inl (by rw [h]; rfl)
  · refine .inr ⟨⟨b, off, none⟩, e, fun j u hu => ?_⟩
    have ea : (⟨b, off, none⟩ : Addr).add j = ⟨b, off + j, none⟩ := by by_cases h : j = 0 <;> simp [Addr.add, h]
    rw [ea]
    exact h j u hu
theorem flat_ones (xs : List Val) : ∀ u ∈ xs.flatMap c3, u.oneCell' = true := fun u hu => by
  obtain ⟨y, _, hu⟩ := List.mem_flatMap.1 hu
  exact c3_one y u hu
theorem copied_any {w : World} {a : Option Addr} {c : Nat} {xs : List Val} (h : RowAt w a xs) (hn : a = none → c = 0) (hl : xs.length ≤ 4194304) : Calls Tryz.prog 12 #[.slice a xs.length c] w fun e w' => ∃ v, e = .returned v ∧ OwnV w' w.heap.size v xs ∧ Below w.heap.size w w' := by
  obtain ⟨T, w', hrun, h1, h2⟩ := copy_okV w xs.length c a (xs.flatMap c3) 34 (flat_len xs) (row_cellsM h) (flat_ones xs) hn hl
  have H1 := hide h1
  have H2 := hide h2
  clear h1 h2 h
  go_enter Tryz.func12, Tryz.ntmps12
  go_wp2_with (at_builtin; refine wpList_app_run rfl (.tmp 3) (.tmp 4) 34 rfl _ _ rfl rfl hrun ?_)
  go_ret
  exact ⟨T, rfl, unhide H1, unhide H2⟩
end Go.Proofs.YtbdkpkpncmagoaaGreat
