import Derived.Test.YtifohbapfciniabVecT
import Derived.Laws.OwnMore
set_option linter.unusedSimpArgs false
set_option linter.unusedVariables false
namespace Go.Proofs.Ytifohbapfciniab
open Go.RowKit Go.Sort

theorem step_append_both {ops : Array Oper} {o : Oper} {a : Act} {w : World} {K : Act → World → Prop} {Q : Exit → Act → World → Prop} {E : Prop} (hgd : o.guard = none) (s x : Operand)
    (ho : o.op = .call { callee := .builtin .append, args := #[s, x], argTypes := #[22, 22] }) (base base' : Nat) (v u : Value) (zs ws : List Val) (hs : a.eval s = v) (hx : a.eval x = u) (hown : OwnV w base v zs) (hown' : OwnV w base' u ws)
    (hl : (zs.length + ws.length) * 32 ≤ 140737488355328) (hbase : base ≤ w.heap.size)
    (h : ∀ v' w', OwnV w' base v' (zs ++ ws) → w.grownBy w' v.ownBlock → K (a.put o.dst v') w') :
    if Region.wanted o (yielded ops a.tmps) = true then Oper.wp Try.prog o a w K Q else E := by
  obtain ⟨i, hi, hz, hsize, hby⟩ := info_parts Try.info40
  have hw : Region.wanted o (yielded ops a.tmps) = true := by simp [Region.wanted, hgd]
  rw [if_pos hw]
  have hcell := @World.ownsRow.cells w base' 40 3 u ws.length (ws.flatMap c3) hown'
  rcases hown'.2 with ⟨rfl, h0⟩ | ⟨g, cap, cur, rfl, _⟩
  · have e0 : ws = [] := List.eq_nil_of_length_eq_zero h0
    subst e0
    have hrun := run_append_owned_none (P := Try.prog) (w := w) base 22 o.type 40 i 3 Try.underlying22 hi v zs.length (zs.flatMap c3) hown
    unfold Oper.wp
    simp [execOp, ho, resolve, invoke, builtin, hs, hx, hrun, Result.andThen]
    exact h _ _ (by simpa using hown) (World.grownBy.refl _ _)
  · obtain ⟨v', w', hrun, r1, r2, _, _⟩ := run_append_own_at (P := Try.prog) w base 22 o.type 40 i _ 3 32 Try.underlying22 hi hz hsize hby rfl (by decide) v zs.length (zs.flatMap c3) hown ⟨g, 0, none⟩ ws.length cap (ws.flatMap c3) (flat_len ws) (hcell rfl)
      (by intro u hu; obtain ⟨z, _, hz⟩ := List.mem_flatMap.1 hu; exact c3_one z u hz) (by unfold maxLen; omega) hl hbase
    unfold Oper.wp
    simp [execOp, ho, resolve, invoke, builtin, hs, hx, hrun, Result.andThen]
    refine h _ _ ?_ r2
    unfold OwnV
    rw [List.length_append, List.flatMap_append]
    exact r1

def joinedV (X Y : Vc) : Vc × Int :=
  if (goodB X && goodB Y) = false then (.zero, 1) else if (X.k != Y.k) = true then (.zero, 4) else (laidV X.k (valsV X ++ valsV Y), 0)

def boxes3 (w : World) (X Y : Vc) (p q : Sl) : World := (boxV (boxV w X p) Y q).alloc (.cells #[.int .i64 0, .slice none 0 0, .slice none 0 0, .slice none 0 0] 27)
theorem boxes3_facts {w w' : World} {X Y : Vc} {p q : Sl} (h : Below (boxes3 w X Y p q).heap.size (boxes3 w X Y p q) w') :
    w'.rowIs w.heap.size 27 4 (box4 (.int .i64 X.k) (.slice p.a1 X.nl.length p.c1) (.slice p.a2 X.ns.length p.c2) (.slice p.a3 X.ss.length p.c3)) ∧
    w'.rowIs (w.heap.size + 1) 27 4 (box4 (.int .i64 Y.k) (.slice q.a1 Y.nl.length q.c1) (.slice q.a2 Y.ns.length q.c2) (.slice q.a3 Y.ss.length q.c3)) ∧
    w'.rowIs (w.heap.size + 1 + 1) 27 4 (box4 (.int .i64 0) noS noS noS) ∧ Below w.heap.size w w' := by
  refine ⟨rowIs_later (((box4_alloc w _ _ _ _).alloc _).alloc _) h, ?_, ?_, below_step (below_alloc (below_alloc (below_alloc (Below.refl _ _) _) _) _) h⟩
  · have := rowIs_later ((box4_alloc (boxV w X p) (.int .i64 Y.k) (.slice q.a1 Y.nl.length q.c1) (.slice q.a2 Y.ns.length q.c2) (.slice q.a3 Y.ss.length q.c3)).alloc _) h
    simpa [boxV] using this
  · have := rowIs_later (box4_alloc (boxV (boxV w X p) Y q) (.int .i64 0) noS noS noS) h
    simpa [boxV] using this
theorem below_set42 {w0 w : World} (h : Below w0.heap.size w0 w) (v0 v1 v2 v3 : Value) : Below w0.heap.size w0 ((((w.setCell ⟨w0.heap.size + 1 + 1, 0, none⟩ v0).setCell ⟨w0.heap.size + 1 + 1, 1, none⟩ v1).setCell ⟨w0.heap.size + 1 + 1, 2, none⟩ v2).setCell ⟨w0.heap.size + 1 + 1, 3, none⟩ v3) := below_set4 h (by omega) _ _ _ _

theorem jS {w w' : World} {X Y : Vc} {p q : Sl} (hb : Below w.heap.size w w')
    (h1 : w'.rowIs w.heap.size 27 4 (box4 (.int .i64 X.k) (.slice p.a1 X.nl.length p.c1) (.slice p.a2 X.ns.length p.c2) (.slice p.a3 X.ss.length p.c3)))
    (h2 : w'.rowIs (w.heap.size + 1) 27 4 (box4 (.int .i64 Y.k) (.slice q.a1 Y.nl.length q.c1) (.slice q.a2 Y.ns.length q.c2) (.slice q.a3 Y.ss.length q.c3))) :
    Below w.heap.size w w' ∧ w'.cell? ⟨w.heap.size, 0, none⟩ = some (.int .i64 X.k) ∧ w'.cell? ⟨w.heap.size, 1, none⟩ = some (.slice p.a1 X.nl.length p.c1) ∧ w'.cell? ⟨w.heap.size, 2, none⟩ = some (.slice p.a2 X.ns.length p.c2) ∧ w'.cell? ⟨w.heap.size, 3, none⟩ = some (.slice p.a3 X.ss.length p.c3) ∧ w'.cell? ⟨w.heap.size + 1, 0, none⟩ = some (.int .i64 Y.k) ∧ w'.cell? ⟨w.heap.size + 1, 1, none⟩ = some (.slice q.a1 Y.nl.length q.c1) ∧ w'.cell? ⟨w.heap.size + 1, 2, none⟩ = some (.slice q.a2 Y.ns.length q.c2) ∧ w'.cell? ⟨w.heap.size + 1, 3, none⟩ = some (.slice q.a3 Y.ss.length q.c3) := by
  obtain ⟨t0, t1, t2, t3, _⟩ := box_facts h1
  obtain ⟨o0, o1, o2, o3, _⟩ := box_facts h2
  exact ⟨hb, t0, t1, t2, t3, o0, o1, o2, o3⟩
theorem rowIs_set4 {w : World} {g t n B : Nat} {F : Nat → Value} (h : w.rowIs g t n F) (hne : g ≠ B) (v0 v1 v2 v3 : Value) : ((((w.setCell ⟨B, 0, none⟩ v0).setCell ⟨B, 1, none⟩ v1).setCell ⟨B, 2, none⟩ v2).setCell ⟨B, 3, none⟩ v3).rowIs g t n F :=
  (((h.setOther hne _).setOther hne _).setOther hne _).setOther hne _
theorem grown_row {w w1 : World} {g n : Nat} {F : Nat → Value} {base : Nat} {v : Value} {zs : List Val} (h : w.rowIs g 27 n F) (ho : OwnV w base v zs) (hg : w.grownBy w1 v.ownBlock) : w1.rowIs g 27 n F := rowIs_grown h hg (own_ne h ho (by decide))

set_option maxHeartbeats 4000000 in
set_option maxRecDepth 100000 in
theorem joined_no (X Y : Vc) (p q : Sl) (w : World) (hs : small X) (hs' : small Y) (hp : VecAt w X p) (hq : VecAt w Y q) (hno : (goodB X && goodB Y && !(X.k != Y.k)) = false) :
    Calls Try.prog 23 #[vecV X p, vecV Y q] w fun e w' => ∃ r, e = .returned (.tuple #[vecV (joinedV X Y).1 r, .int .i64 (joinedV X Y).2]) ∧ VecAt w' (joinedV X Y).1 r ∧ Fresh w.heap.size r ∧ Below w.heap.size w w' := by
  have HGX : Hid (∀ w', Below w.heap.size w w' → Calls Try.prog 13 #[vecV X p] w' fun e w'' => e = .returned (.bool (goodB X)) ∧ Below w'.heap.size w' w'') := fun w' hb => good_any X p w' hs (hp.later hb)
  have HGY : Hid (∀ w', Below w.heap.size w w' → Calls Try.prog 13 #[vecV Y q] w' fun e w'' => e = .returned (.bool (goodB Y)) ∧ Below w'.heap.size w' w'') := fun w' hb => good_any Y q w' hs' (hq.later hb)
  have HVX : Hid (∀ w', Below w.heap.size w w' → Calls Try.prog 17 #[vecV X p] w' fun e w'' => ∃ v, e = .returned v ∧ OwnV w'' w'.heap.size v (valsV X) ∧ Below w'.heap.size w' w'') := fun w' hb => values_any X p w' hs (hp.later hb)
  have HVY : Hid (∀ w', Below w.heap.size w w' → Calls Try.prog 17 #[vecV Y q] w' fun e w'' => ∃ v, e = .returned v ∧ OwnV w'' w'.heap.size v (valsV Y) ∧ Below w'.heap.size w' w'') := fun w' hb => values_any Y q w' hs' (hq.later hb)
  have hN : (valsV X).length ≤ 1048576 := Nat.le_trans (vals_le X) hs.1
  have hM : (valsV Y).length ≤ 1048576 := Nat.le_trans (vals_le Y) hs'.1
  generalize hR : joinedV X Y = R
  have HR := hide hR
  clear hR hp hq hs hs'
  rw [vecV_open, vecV_open]
  cases hg : goodB X
  · have HE : Hid (R = (Vc.zero, 1)) := by show _ = _; rw [← unhide HR, joinedV, if_pos (by rw [hg]; rfl)]
    rw [hg] at HGX
    go_enter Try.func23, Try.ntmps23
    go_wp2_with (go_at_call 13; refine (unhide HGX _ (below_alloc (below_alloc (below_alloc (Below.refl _ _) _) _) _)).mono ?_; rintro e w1 ⟨rfl, hb1⟩; obtain ⟨hr1, hr2, hv1, hbw⟩ := boxes3_facts (w := w) (X := X) (Y := Y) (p := p) (q := q) hb1; obtain ⟨r0, r1, r2, r3, f0, f1, f2, f3⟩ := box_facts hv1)
    refine bodyPost_ret (v := .tuple #[zeroVec, .int .i64 1]) (by simp [results, Try.results23, go_sem, zeroVec, *]) rfl ?_
    exact refused (unhide HE) (below_set42 hbw _ _ _ _)
  · cases hg' : goodB Y
    · have HE : Hid (R = (Vc.zero, 1)) := by show _ = _; rw [← unhide HR, joinedV, if_pos (by rw [hg, hg']; rfl)]
      rw [hg] at HGX
      rw [hg'] at HGY
      go_enter Try.func23, Try.ntmps23
      go_wp2_with (first
        | (go_at_call_of 13 (Value.int IntKind.i64 X.k); refine (unhide HGX _ (below_alloc (below_alloc (below_alloc (Below.refl _ _) _) _) _)).mono ?_; rintro e w1 ⟨rfl, hb1⟩; obtain ⟨hr1, hr2, hv1, hbw⟩ := boxes3_facts (w := w) (X := X) (Y := Y) (p := p) (q := q) hb1; obtain ⟨s0, s1, s2, s3, _⟩ := box_facts hr2)
        | (go_at_call_of 13 (Value.int IntKind.i64 Y.k); refine (unhide HGY _ hbw).mono ?_; rintro e w2 ⟨rfl, hb2⟩; obtain ⟨r0, r1, r2, r3, f0, f1, f2, f3⟩ := box_facts (rowIs_later hv1 hb2)))
      refine bodyPost_ret (v := .tuple #[zeroVec, .int .i64 1]) (by simp [results, Try.results23, go_sem, zeroVec, *]) rfl ?_
      exact refused (unhide HE) (below_set42 (below_step hbw hb2) _ _ _ _)
    · rw [hg] at HGX
      rw [hg'] at HGY
      rcases Bool.eq_false_or_eq_true (X.k != Y.k) with ek | ek
      · have HE : Hid (R = (Vc.zero, 4)) := by show _ = _; rw [← unhide HR, joinedV, if_neg (by rw [hg, hg']; simp), if_pos ek]
        go_enter Try.func23, Try.ntmps23
        go_wp2_with (first
          | (go_at_call_of 13 (Value.int IntKind.i64 X.k); refine (unhide HGX _ (below_alloc (below_alloc (below_alloc (Below.refl _ _) _) _) _)).mono ?_; rintro e w1 ⟨rfl, hb1⟩; obtain ⟨hr1, hr2, hv1, hbw⟩ := boxes3_facts (w := w) (X := X) (Y := Y) (p := p) (q := q) hb1; obtain ⟨s0, s1, s2, s3, _⟩ := box_facts hr2)
          | (go_at_call_of 13 (Value.int IntKind.i64 Y.k); refine (unhide HGY _ hbw).mono ?_; rintro e w2 ⟨rfl, hb2⟩; obtain ⟨r0, r1, r2, r3, f0, f1, f2, f3⟩ := box_facts (rowIs_later hv1 hb2); obtain ⟨t0, _⟩ := box_facts (rowIs_later hr1 hb2); obtain ⟨o0, _⟩ := box_facts (rowIs_later hr2 hb2)))
        refine bodyPost_ret (v := .tuple #[zeroVec, .int .i64 4]) (by simp [results, Try.results23, go_sem, zeroVec, *]) rfl ?_
        exact refused (unhide HE) (below_set42 (below_step hbw hb2) _ _ _ _)
      · rw [hg, hg', ek] at hno
        cases hno
end Go.Proofs.Ytifohbapfciniab
