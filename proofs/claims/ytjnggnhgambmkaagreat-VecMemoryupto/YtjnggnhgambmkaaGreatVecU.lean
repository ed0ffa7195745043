import Derived.Test.YtjnggnhgambmkaaGreatVecO
import Derived.Laws.OwnMore
set_option linter.unusedSimpArgs false
set_option linter.unusedVariables false
namespace Go.Proofs.YtjnggnhgambmkaaGreat
open Go.RowKit Go.Sort

theorem step_append_both {ops : Array Oper} {o : Oper} {a : Act} {w : World} {K : Act → World → Prop} {Q : Exit → Act → World → Prop} {E : Prop} (hgd : o.guard = none) (s x : Operand)
    (ho : o.op = .call { callee := .builtin .append, args := #[s, x], argTypes := #[22, 22] }) (base base' : Nat) (v u : Value) (zs ws : List Val) (hs : a.eval s = v) (hx : a.eval x = u) (hown : OwnV w base v zs) (hown' : OwnV w base' u ws)
    (hl : (zs.length + ws.length) * 32 ≤ 140737488355328) (hbase : base ≤ w.heap.size)
    (h : ∀ v' w', OwnV w' base v' (zs ++ ws) → w.grownBy w' v.ownBlock → K (a.put o.dst v') w') :
    if Region.wanted o (yielded ops a.tmps) = true then Oper.wp Tryz.prog o a w K Q else E := by
  obtain ⟨i, hi, hz, hsize, hby⟩ := info_parts Tryz.info38
  have hw : Region.wanted o (yielded ops a.tmps) = true := by simp [Region.wanted, hgd]
  rw [if_pos hw]
  have hcell := @World.ownsRow.cells w base' 38 3 u ws.length (ws.flatMap c3) hown'
  rcases hown'.2 with ⟨rfl, h0⟩ | ⟨g, cap, cur, rfl, _⟩
  · have e0 : ws = [] := List.eq_nil_of_length_eq_zero h0
    subst e0
    have hrun := run_append_owned_none (P := Tryz.prog) (w := w) base 22 o.type 38 i 3 Tryz.underlying22 hi v zs.length (zs.flatMap c3) hown
    unfold Oper.wp
    simp [execOp, ho, resolve, invoke, builtin, hs, hx, hrun, Result.andThen]
    exact h _ _ (by simpa using hown) (World.grownBy.refl _ _)
  · obtain ⟨v', w', hrun, r1, r2, _, _⟩ := run_append_own_at (P := Tryz.prog) w base 22 o.type 38 i _ 3 32 Tryz.underlying22 hi hz hsize hby rfl (by decide) v zs.length (zs.flatMap c3) hown ⟨g, 0, none⟩ ws.length cap (ws.flatMap c3) (flat_len ws) (hcell rfl)
      (by intro u hu; obtain ⟨z, _, hz⟩ := List.mem_flatMap.1 hu; exact c3_one z u hz) (by unfold maxLen; omega) hl hbase
    unfold Oper.wp
    simp [execOp, ho, resolve, invoke, builtin, hs, hx, hrun, Result.andThen]
    refine h _ _ ?_ r2
    unfold OwnV
    rw [List.length_append, List.flatMap_append]
    exact r1

def joinedV (X Y : Vc) : Vc × Int :=
  if (goodB X && goodB Y) = false then (.zero, 1) else if (X.k != Y.k) = true then (.zero, 4) else (laidV X.k (valsV X ++ valsV Y), 0)

def boxes3V (w : World) (X Y : Vc) (p q : Sl) : World := (boxV (boxV w X p) Y q).alloc (.cells #[.int .i64 0, .slice none 0 0, .slice none 0 0, .slice none 0 0] 29)
theorem boxes3_factsV {w w' : World} {X Y : Vc} {p q : Sl} (h : Below (boxes3V w X Y p q).heap.size (boxes3V w X Y p q) w') :
    w'.rowIs w.heap.size 29 4 (box4 (.int .i64 X.k) (.slice p.a1 X.nl.length p.c1) (.slice p.a2 X.ns.length p.c2) (.slice p.a3 X.ss.length p.c3)) ∧
    w'.rowIs (w.heap.size + 1) 29 4 (box4 (.int .i64 Y.k) (.slice q.a1 Y.nl.length q.c1) (.slice q.a2 Y.ns.length q.c2) (.slice q.a3 Y.ss.length q.c3)) ∧
    w'.rowIs (w.heap.size + 1 + 1) 29 4 (box4 (.int .i64 0) noS noS noS) ∧ Below w.heap.size w w' := by
  refine ⟨rowIs_later (((box4_alloc w _ _ _ _).alloc _).alloc _) h, ?_, ?_, below_step (below_alloc (below_alloc (below_alloc (Below.refl _ _) _) _) _) h⟩
  · have := rowIs_later ((box4_alloc (boxV w X p) (.int .i64 Y.k) (.slice q.a1 Y.nl.length q.c1) (.slice q.a2 Y.ns.length q.c2) (.slice q.a3 Y.ss.length q.c3)).alloc _) h
    simpa [boxV] using this
  · have := rowIs_later (box4_alloc (boxV (boxV w X p) Y q) (.int .i64 0) noS noS noS) h
    simpa [boxV] using this
theorem below_set42 {w0 w : World} (h : Below w0.heap.size w0 w) (v0 v1 v2 v3 : Value) : Below w0.heap.size w0 ((((w.setCell ⟨w0.heap.size + 1 + 1, 0, none⟩ v0).setCell ⟨w0.heap.size + 1 + 1, 1, none⟩ v1).setCell ⟨w0.heap.size + 1 + 1, 2, none⟩ v2).setCell ⟨w0.heap.size + 1 + 1, 3, none⟩ v3) := below_set4 h (by omega) _ _ _ _

theorem jS {w w' : World} {X Y : Vc} {p q : Sl} (hb : Below w.heap.size w w')
    (h1 : w'.rowIs w.heap.size 29 4 (box4 (.int .i64 X.k) (.slice p.a1 X.nl.length p.c1) (.slice p.a2 X.ns.length p.c2) (.slice p.a3 X.ss.length p.c3)))
    (h2 : w'.rowIs (w.heap.size + 1) 29 4 (box4 (.int .i64 Y.k) (.slice q.a1 Y.nl.length q.c1) (.slice q.a2 Y.ns.length q.c2) (.slice q.a3 Y.ss.length q.c3))) :
    Below w.heap.size w w' ∧ w'.cell? ⟨w.heap.size, 0, none⟩ = some (.int .i64 X.k) ∧ w'.cell? ⟨w.heap.size, 1, none⟩ = some (.slice p.a1 X.nl.length p.c1) ∧ w'.cell? ⟨w.heap.size, 2, none⟩ = some (.slice p.a2 X.ns.length p.c2) ∧ w'.cell? ⟨w.heap.size, 3, none⟩ = some (.slice p.a3 X.ss.length p.c3) ∧ w'.cell? ⟨w.heap.size + 1, 0, none⟩ = some (.int .i64 Y.k) ∧ w'.cell? ⟨w.heap.size + 1, 1, none⟩ = some (.slice q.a1 Y.nl.length q.c1) ∧ w'.cell? ⟨w.heap.size + 1, 2, none⟩ = some (.slice q.a2 Y.ns.length q.c2) ∧ w'.cell? ⟨w.heap.size + 1, 3, none⟩ = some (.slice q.a3 Y.ss.length q.c3) := by
  obtain ⟨t0, t1, t2, t3, _⟩ := box_facts h1
  obtain ⟨o0, o1, o2, o3, _⟩ := box_facts h2
  exact ⟨hb, t0, t1, t2, t3, o0, o1, o2, o3⟩
theorem rowIs_set4 {w : World} {g t n B : Nat} {F : Nat → Value} (h : w.rowIs g t n F) (hne : g ≠ B) (v0 v1 v2 v3 : Value) : ((((w.setCell ⟨B, 0, none⟩ v0).setCell ⟨B, 1, none⟩ v1).setCell ⟨B, 2, none⟩ v2).setCell ⟨B, 3, none⟩ v3).rowIs g t n F :=
  (((h.setOther hne _).setOther hne _).setOther hne _).setOther hne _
theorem grown_row {w w1 : World} {g n : Nat} {F : Nat → Value} {base : Nat} {v : Value} {zs : List Val} (h : w.rowIs g 29 n F) (ho : OwnV w base v zs) (hg : w.grownBy w1 v.ownBlock) : w1.rowIs g 29 n F := rowIs_grown h hg (own_ne h ho (by decide))

set_option maxHeartbeats 4000000 in
set_option maxRecDepth 100000 in
theorem joined_no (X Y : Vc) (p q : Sl) (w : World) (hs : small X) (hs' : small Y) (h20 : X.nl.length ≤ 1048576) (h21 : Y.nl.length ≤ 1048576) (hp : VecAt w X p) (hq : VecAt w Y q) (hno : (goodB X && goodB Y && !(X.k != Y.k)) = false) :
    Calls Tryz.prog 14 #[vecV X p, vecV Y q] w fun e w' => ∃ r, e = .returned (.tuple #[vecV (joinedV X Y).1 r, .int .i64 (joinedV X Y).2]) ∧ VecAt w' (joinedV X Y).1 r ∧ Own3 w' w.heap.size (joinedV X Y).1 r ∧ Below w.heap.size w w' := by
  have HGX : Hid (∀ w', Below w.heap.size w w' → Calls Tryz.prog 6 #[vecV X p] w' fun e w'' => e = .returned (.bool (goodB X)) ∧ Below w'.heap.size w' w'') := fun w' hb => good_any X p w' hs (hp.later hb)
  have HGY : Hid (∀ w', Below w.heap.size w w' → Calls Tryz.prog 6 #[vecV Y q] w' fun e w'' => e = .returned (.bool (goodB Y)) ∧ Below w'.heap.size w' w'') := fun w' hb => good_any Y q w' hs' (hq.later hb)
  have HVX : Hid (∀ w', Below w.heap.size w w' → Calls Tryz.prog 11 #[vecV X p] w' fun e w'' => ∃ v, e = .returned v ∧ OwnV w'' w'.heap.size v (valsV X) ∧ Below w'.heap.size w' w'') := fun w' hb => values_any X p w' hs (hp.later hb)
  have HVY : Hid (∀ w', Below w.heap.size w w' → Calls Tryz.prog 11 #[vecV Y q] w' fun e w'' => ∃ v, e = .returned v ∧ OwnV w'' w'.heap.size v (valsV Y) ∧ Below w'.heap.size w' w'') := fun w' hb => values_any Y q w' hs' (hq.later hb)
  have hN : (valsV X).length ≤ 1048576 := Nat.le_trans (vals_le X) h20
  have hM : (valsV Y).length ≤ 1048576 := Nat.le_trans (vals_le Y) h21
  generalize hR : joinedV X Y = R
  have HR := hide hR
  clear hR hp hq hs hs'
  rw [vecV_open, vecV_open]
  cases hg : goodB X
  · have HE : Hid (R = (Vc.zero, 1)) := by show _ = _; rw [← unhide HR, joinedV, if_pos (by rw [hg]; rfl)]
    rw [hg] at HGX
    go_enter Tryz.func14, Tryz.ntmps14
    go_wp2_with (go_at_call 6; refine (unhide HGX _ (below_alloc (below_alloc (below_alloc (Below.refl _ _) _) _) _)).mono ?_; rintro e w1 ⟨rfl, hb1⟩; obtain ⟨hr1, hr2, hv1, hbw⟩ := boxes3_factsV (w := w) (X := X) (Y := Y) (p := p) (q := q) hb1; obtain ⟨r0, r1, r2, r3, f0, f1, f2, f3⟩ := box_facts hv1)
    refine bodyPost_ret (v := .tuple #[zeroVec, .int .i64 1]) (by simp [results, Tryz.results14, go_sem, zeroVec, *]) rfl ?_
    exact refused (unhide HE) (below_set42 hbw _ _ _ _)
  · cases hg' : goodB Y
    · have HE : Hid (R = (Vc.zero, 1)) := by show _ = _; rw [← unhide HR, joinedV, if_pos (by rw [hg, hg']; rfl)]
      rw [hg] at HGX
      rw [hg'] at HGY
      go_enter Tryz.func14, Tryz.ntmps14
      go_wp2_with (first
        | (go_at_call_of 6 (Value.int IntKind.i64 X.k); refine (unhide HGX _ (below_alloc (below_alloc (below_alloc (Below.refl _ _) _) _) _)).mono ?_; rintro e w1 ⟨rfl, hb1⟩; obtain ⟨hr1, hr2, hv1, hbw⟩ := boxes3_factsV (w := w) (X := X) (Y := Y) (p := p) (q := q) hb1; obtain ⟨s0, s1, s2, s3, _⟩ := box_facts hr2)
        | (go_at_call_of 6 (Value.int IntKind.i64 Y.k); refine (unhide HGY _ hbw).mono ?_; rintro e w2 ⟨rfl, hb2⟩; obtain ⟨r0, r1, r2, r3, f0, f1, f2, f3⟩ := box_facts (rowIs_later hv1 hb2)))
      refine bodyPost_ret (v := .tuple #[zeroVec, .int .i64 1]) (by simp [results, Tryz.results14, go_sem, zeroVec, *]) rfl ?_
      exact refused (unhide HE) (below_set42 (below_step hbw hb2) _ _ _ _)
    · rw [hg] at HGX
      rw [hg'] at HGY
      rcases Bool.eq_false_or_eq_true (X.k != Y.k) with ek | ek
      · have HE : Hid (R = (Vc.zero, 4)) := by show _ = _; rw [← unhide HR, joinedV, if_neg (by rw [hg, hg']; simp), if_pos ek]
        go_enter Tryz.func14, Tryz.ntmps14
        go_wp2_with (first
          | (go_at_call_of 6 (Value.int IntKind.i64 X.k); refine (unhide HGX _ (below_alloc (below_alloc (below_alloc (Below.refl _ _) _) _) _)).mono ?_; rintro e w1 ⟨rfl, hb1⟩; obtain ⟨hr1, hr2, hv1, hbw⟩ := boxes3_factsV (w := w) (X := X) (Y := Y) (p := p) (q := q) hb1; obtain ⟨s0, s1, s2, s3, _⟩ := box_facts hr2)
          | (go_at_call_of 6 (Value.int IntKind.i64 Y.k); refine (unhide HGY _ hbw).mono ?_; rintro e w2 ⟨rfl, hb2⟩; obtain ⟨r0, r1, r2, r3, f0, f1, f2, f3⟩ := box_facts (rowIs_later hv1 hb2); obtain ⟨t0, _⟩ := box_facts (rowIs_later hr1 hb2); obtain ⟨o0, _⟩ := box_facts (rowIs_later hr2 hb2)))
        refine bodyPost_ret (v := .tuple #[zeroVec, .int .i64 4]) (by simp [results, Tryz.results14, go_sem, zeroVec, *]) rfl ?_
        exact refused (unhide HE) (below_set42 (below_step hbw hb2) _ _ _ _)
      · rw [hg, hg', ek] at hno
        cases hno
end Go.Proofs.YtjnggnhgambmkaaGreat
set_option linter.unusedSimpArgs false
set_option linter.unusedVariables false
namespace Go.Proofs.YtjnggnhgambmkaaGreat
open Go.RowKit Go.Sort

set_option maxHeartbeats 4000000 in
set_option maxRecDepth 100000 in
theorem joined_yes (X Y : Vc) (p q : Sl) (w : World) (hs : small X) (hs' : small Y) (h20 : X.nl.length ≤ 1048576) (h21 : Y.nl.length ≤ 1048576) (hp : VecAt w X p) (hq : VecAt w Y q) (hg : goodB X = true) (hg' : goodB Y = true) (ek : (X.k != Y.k) = false) :
    Calls Tryz.prog 14 #[vecV X p, vecV Y q] w fun e w' => ∃ r, e = .returned (.tuple #[vecV (joinedV X Y).1 r, .int .i64 (joinedV X Y).2]) ∧ VecAt w' (joinedV X Y).1 r ∧ Own3 w' w.heap.size (joinedV X Y).1 r ∧ Below w.heap.size w w' := by
  have HGX : Hid (∀ w', Below w.heap.size w w' → Calls Tryz.prog 6 #[vecV X p] w' fun e w'' => e = .returned (.bool (goodB X)) ∧ Below w'.heap.size w' w'') := fun w' hb => good_any X p w' hs (hp.later hb)
  have HGY : Hid (∀ w', Below w.heap.size w w' → Calls Tryz.prog 6 #[vecV Y q] w' fun e w'' => e = .returned (.bool (goodB Y)) ∧ Below w'.heap.size w' w'') := fun w' hb => good_any Y q w' hs' (hq.later hb)
  have HVX : Hid (∀ w', Below w.heap.size w w' → Calls Tryz.prog 11 #[vecV X p] w' fun e w'' => ∃ v, e = .returned v ∧ OwnV w'' w'.heap.size v (valsV X) ∧ Below w'.heap.size w' w'') := fun w' hb => values_any X p w' hs (hp.later hb)
  have HVY : Hid (∀ w', Below w.heap.size w w' → Calls Tryz.prog 11 #[vecV Y q] w' fun e w'' => ∃ v, e = .returned v ∧ OwnV w'' w'.heap.size v (valsV Y) ∧ Below w'.heap.size w' w'') := fun w' hb => values_any Y q w' hs' (hq.later hb)
  have hN : (valsV X).length ≤ 1048576 := Nat.le_trans (vals_le X) h20
  have hM : (valsV Y).length ≤ 1048576 := Nat.le_trans (vals_le Y) h21
  generalize hR : joinedV X Y = R
  have HR := hide hR
  clear hR hp hq hs hs'
  rw [vecV_open, vecV_open]
  rw [hg] at HGX
  rw [hg'] at HGY
  obtain ⟨ZS, hZS⟩ : ∃ ZS, ZS = valsV X ++ valsV Y := ⟨_, rfl⟩
  have HZ := hide hZS
  have hzl : ZS.length ≤ 2097152 := by rw [hZS, List.length_append]; omega
  clear hZS
  have HE : Hid (R = (laidV X.k ZS, 0)) := by show _ = _; rw [unhide HZ, ← unhide HR, joinedV, if_neg (by rw [hg, hg']; simp), if_neg (by rw [ek]; simp)]
  clear hg hg'
  go_enter Tryz.func14, Tryz.ntmps14
  go_upto_region 5 with (first
    | (go_at_call_of 6 (Value.int IntKind.i64 X.k); refine (unhide HGX _ (below_alloc (below_alloc (below_alloc (Below.refl _ _) _) _) _)).mono ?_; rintro e w1 ⟨rfl, hb1⟩; obtain ⟨hr1, hr2, hv1, hbw⟩ := boxes3_factsV (w := w) (X := X) (Y := Y) (p := p) (q := q) hb1; obtain ⟨s0, s1, s2, s3, _⟩ := box_facts hr2)
    | (go_at_call_of 6 (Value.int IntKind.i64 Y.k); refine (unhide HGY _ hbw).mono ?_; rintro e w2 ⟨rfl, hb2⟩; have hR1 := rowIs_later hr1 hb2; have hR2 := rowIs_later hr2 hb2; have hV1 := rowIs_later hv1 hb2; have hBW := below_step hbw hb2; clear s0 s1 s2 s3 hr1 hr2 hv1 hbw hb2; obtain ⟨t0, _⟩ := box_facts hR1; obtain ⟨o0, _⟩ := box_facts hR2))
  clear HGX HGY t0 o0
  have S2 := jS hBW.drew hR1.drew hR2.drew
  go_region_held3 (fun w' => Below w.heap.size w w' ∧ w'.cell? ⟨w.heap.size, 0, none⟩ = some (.int .i64 X.k) ∧ w'.cell? ⟨w.heap.size, 1, none⟩ = some (.slice p.a1 X.nl.length p.c1) ∧ w'.cell? ⟨w.heap.size, 2, none⟩ = some (.slice p.a2 X.ns.length p.c2) ∧ w'.cell? ⟨w.heap.size, 3, none⟩ = some (.slice p.a3 X.ss.length p.c3) ∧ w'.cell? ⟨w.heap.size + 1, 0, none⟩ = some (.int .i64 Y.k) ∧ w'.cell? ⟨w.heap.size + 1, 1, none⟩ = some (.slice q.a1 Y.nl.length q.c1) ∧ w'.cell? ⟨w.heap.size + 1, 2, none⟩ = some (.slice q.a2 Y.ns.length q.c2) ∧ w'.cell? ⟨w.heap.size + 1, 3, none⟩ = some (.slice q.a3 Y.ss.length q.c3))
    (first | assumption | exact jS (below_set42 hBW6 _ _ _ _) (rowIs_set4 hR16 (by omega) _ _ _ _) (rowIs_set4 hR26 (by omega) _ _ _ _))
    (first
      | (go_at_call_of 11 (Value.int IntKind.i64 X.k); refine (unhide HVX _ hBW.drew).mono ?_; rintro e w3 ⟨v3, rfl, ho3, hb3⟩; have hBW3 := below_step hBW.drew hb3; have hR13 := rowIs_later hR1.drew hb3; have hR23 := rowIs_later hR2.drew hb3; have hV13 := rowIs_later hV1.drew hb3; have S3 := jS hBW3 hR13 hR23; have hb3s := hb3.size; clear hb3)
      | (go_at_call_of 11 (Value.int IntKind.i64 Y.k); refine (unhide HVY _ hBW3).mono ?_; rintro e w4 ⟨v4, rfl, ho4, hb4⟩; have hBW4 := below_step hBW3 hb4; have hR14 := rowIs_later hR13 hb4; have hR24 := rowIs_later hR23 hb4; have hV14 := rowIs_later hV13 hb4; have S4 := jS hBW4 hR14 hR24; have ho34 := ho3.later hb4; have hbs4 := Nat.le_trans hb3s hb4.size; clear hb4)
      | (go_at_call 26; refine (laid_any a5 c5 X.k ZS w5 (by omega) hrow5).mono ?_; rintro e w6 ⟨r, rfl, hv6, hf6, hb6⟩; rw [vecV_open]; have hBW6 := below_step hBW5 hb6; have hR16 := rowIs_later hR15 hb6; have hR26 := rowIs_later hR25 hb6; have hV16 := rowIs_later hV15 hb6; have S6 := jS hBW6 hR16 hR26; obtain ⟨y0, y1, y2, y3, z0, z1, z2, z3⟩ := box_facts hV16)
      | (refine step_append_both (by rfl) (.tmp 24) (.tmp 26) (by rfl) _ _ v3 v4 (valsV X) (valsV Y) (by rfl) (by rfl) ho34 ho4 (by omega) hbs4 ?_; intro v5 w5 ho5 hgr5; rw [← unhide HZ] at ho5; have hR15 := grown_row hR14 ho34 hgr5; have hR25 := grown_row hR24 ho34 hgr5; have hV15 := grown_row hV14 ho34 hgr5; have hBW5 := hBW4.trans (grown_below hgr5 hBW4.size (fun g e => Nat.le_trans hBW.drew.size (ho34.lt g e).1)); have S5 := jS hBW5 hR15 hR25; obtain ⟨a5, c5, rfl, hrow5⟩ := ownV_row ho5))
  have hz6 : w.heap.size + 1 + 1 < w5.heap.size := hV15.lt
  clear S2 S3 S4 S5 S6
  go_wp2
  refine bodyPost_ret (v := .tuple #[vecV (laidV X.k ZS) r, .int .i64 0]) (by simp [results, Tryz.results14, go_sem, vecV, *]) rfl ?_
  rw [unhide HE]
  exact ⟨r, rfl, hv6.setO4 hf6.fresh hz6 _ _ _ _, (hf6.setO4 hz6 _ _ _ _).less (by omega), below_set42 hBW6 _ _ _ _⟩

theorem joined_any (X Y : Vc) (p q : Sl) (w : World) (hs : small X) (hs' : small Y) (h20 : X.nl.length ≤ 1048576) (h21 : Y.nl.length ≤ 1048576) (hp : VecAt w X p) (hq : VecAt w Y q) :
    Calls Tryz.prog 14 #[vecV X p, vecV Y q] w fun e w' => ∃ r, e = .returned (.tuple #[vecV (joinedV X Y).1 r, .int .i64 (joinedV X Y).2]) ∧ VecAt w' (joinedV X Y).1 r ∧ Own3 w' w.heap.size (joinedV X Y).1 r ∧ Below w.heap.size w w' := by
  cases h : (goodB X && goodB Y && !(X.k != Y.k))
  · exact joined_no X Y p q w hs hs' h20 h21 hp hq h
  · simp only [Bool.and_eq_true, Bool.not_eq_true'] at h
    exact joined_yes X Y p q w hs hs' h20 h21 hp hq h.1.1 h.1.2 h.2
end Go.Proofs.YtjnggnhgambmkaaGreat
set_option linter.unusedSimpArgs false
set_option linter.unusedVariables false
namespace Go.Proofs.YtjnggnhgambmkaaGreat
open Go.RowKit Go.Sort

theorem Tryz.info3 : (Tryz.prog.info? 3).map (fun i => (i.zero, i.size, i.bytes)) = some (some (.int .i64 0), 1, 8) := by kernel_rfl
/-- The places below k at which a number stands that is not 0. -/
def plN (ys : List Val) : Nat → List Int
  | 0 => []
  | k + 1 => plN ys k ++ (if trueB (ys.getD k .null) then [(k : Int)] else [])
theorem plN_len (ys : List Val) : ∀ k, (plN ys k).length ≤ k
  | 0 => Nat.le_refl _
  | k + 1 => by have := plN_len ys k; simp only [plN, List.length_append]; split <;> simp <;> omega
theorem plN_yes {ys : List Val} {k : Nat} {y : Val} (h : ys[k]? = some y) (ht : trueB y = true) : plN ys (k + 1) = plN ys k ++ [(k : Int)] := by
  simp [plN, h, ht]
theorem plN_no {ys : List Val} {k : Nat} {y : Val} (h : ys[k]? = some y) (ht : trueB y = false) : plN ys (k + 1) = plN ys k := by
  simp [plN, h, ht]
def OwnI (w : World) (base : Nat) (v : Value) (zs : List Int) : Prop := w.ownsRow base 3 1 v zs.length (zs.map (Value.int .i64))
theorem ownI_app {w : World} {base : Nat} {v : Value} {zs : List Int} {x : Int} (h : w.ownsRow base 3 1 v (zs.length + 1) (zs.map (Value.int .i64) ++ [.int .i64 x])) : OwnI w base v (zs ++ [x]) := by
  unfold OwnI
  rw [List.length_append, List.map_append]
  simpa using h

set_option maxHeartbeats 4000000 in
theorem places_any (X : Vc) (p : Sl) (w : World) (hs : small X) (h20 : X.nl.length ≤ 1048576) (hp : VecAt w X p) :
    Calls Tryz.prog 15 #[vecV X p] w fun e w' => ∃ v, e = .returned v ∧ OwnI w' w.heap.size v (plN (valsV X) (valsV X).length) ∧ Below w.heap.size w w' := by
  obtain ⟨i4, hi4, z40, z41, z42⟩ := info_parts Tryz.info3
  have HV : Hid (∀ w', Below w.heap.size w w' → Calls Tryz.prog 11 #[vecV X p] w' fun e w'' => ∃ v, e = .returned v ∧ OwnV w'' w'.heap.size v (valsV X) ∧ Below w'.heap.size w' w'') := fun w' hb => values_any X p w' hs (hp.later hb)
  have hN : (valsV X).length ≤ 1048576 := Nat.le_trans (vals_le X) h20
  generalize valsV X = ys at HV hN ⊢
  generalize hZ : plN ys ys.length = Z
  have HZ := hide hZ
  clear hp hs hZ
  rw [vecV_open]
  go_enter Tryz.func15, Tryz.ntmps15
  go_wp2_with (go_at_call 11; refine (unhide HV _ (below_alloc (Below.refl _ _) _)).mono ?_; rintro e w1 ⟨v, rfl, ho1, hb1⟩; obtain ⟨a, c, rfl, hr1⟩ := ownV_row ho1; have hbw := below_one hb1; clear ho1 hb1)
  have HR := hide hr1
  have HBW := hide hbw
  clear hr1 hbw
  go_loopw [3, 9] (fun v i wr => ∃ k : Nat, k ≤ ys.length ∧ i = .int .i64 k ∧ OwnI wr w1.heap.size v (plN ys k) ∧ Below w1.heap.size w1 wr) (fun _ i _ => ys.length - (intOf i).toNat)
  case atStart => exact ⟨0, Nat.zero_le _, rfl, World.ownsRow_nil _ _ _ _, Below.refl _ _⟩
  case round =>
    obtain ⟨k, hk, rfl, ho, hb⟩ := hrel
    have HO := hide ho
    have HB := hide hb
    have HL := hide (plN_len ys k)
    by_cases h1 : k < ys.length
    · obtain ⟨y, hy⟩ : ∃ y, ys[k]? = some y := ⟨_, List.getElem?_eq_getElem h1⟩
      rcases (unhide HR).later hb with e | ⟨ba, oa, e, hca⟩
      · rw [e] at hy; cases hy
      subst e
      obtain ⟨c0, c1, c2⟩ := hca k y hy
      have HY := hide hy
      have i1 : (k : Int) < (ys.length : Int) := by omega
      clear hca hy ho hb
      rcases Bool.eq_false_or_eq_true (trueB y) with et | et
      · go_wp2_with (first
          | (go_at_call 34; refine (true_any y _).mono ?_; rintro e w2 ⟨rfl, hb2⟩; have hb2' := below_one hb2; have ho2 := own_later (unhide HO) hb2'; have hbb2 := below_step (unhide HB) hb2'; have hsz2 := hbb2.size)
          | (at_builtin; refine wpList_append_own_at _ rfl (.tmp 16) (.tmp 18) 23 rfl w1.heap.size 3 i4 (.int .i64 0) 1 8 Tryz.underlying23 hi4 z40 z41 z42 rfl (by decide) _ _ _ rfl (World.ownsRow.alloc ho2 _) ⟨w2.heap.size, 0, none⟩ 1 1 [.int .i64 (k : Int)] rfl rfl (cell_one_new _ _ _) (by intro u hu; simp at hu; subst hu; rfl) (by have := unhide HL; unfold maxLen; omega) (by have := unhide HL; omega) (by simp; omega) ?_; intro v1 w3 hown1 hgrow1 _ hat1; have ho3 := ownI_app hown1; have hgr : (w2.alloc (.cells #[.int .i64 (k : Int)] 3)).grownBy w3 u3.ownBlock := hgrow1; clear hown1 hgrow1 hat1))
        go_roundw
        case rel => exact ⟨k + 1, by omega, by go_num, by rw [plN_yes (unhide HY) et]; exact ho3, (below_alloc hbb2 _).trans (grown_below hgr (below_alloc hbb2 _).size fun g e => (ho2.lt g e).1)⟩
        case measure => simp [intOf]; omega
      · go_wp2_with (go_at_call 34; refine (true_any y _).mono ?_; rintro e w2 ⟨rfl, hb2⟩; have hb2' := below_one hb2; have ho2 := own_later (unhide HO) hb2'; have hbb2 := below_step (unhide HB) hb2')
        go_roundw
        case rel => exact ⟨k + 1, by omega, by go_num, by rw [plN_no (unhide HY) et]; exact ho2, hbb2⟩
        case measure => simp [intOf]; omega
    · have i1 : ¬ (k : Int) < (ys.length : Int) := by omega
      have HE : Hid (plN ys k = Z) := by
        show _ = _
        have e : k = ys.length := by omega
        rw [e]; exact unhide HZ
      clear ho hb
      go_wp2
      go_ret
      refine ⟨_, rfl, ?_, below_step (unhide HBW) (unhide HB)⟩
      rw [← unhide HE]
      exact own_base (unhide HO) (unhide HBW).size
end Go.Proofs.YtjnggnhgambmkaaGreat
