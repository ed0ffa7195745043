import Derived.Test.YtifohbapfciniabVecU
set_option linter.unusedSimpArgs false
set_option linter.unusedVariables false
namespace Go.Proofs.Ytifohbapfciniab
open Go.RowKit Go.Sort

set_option maxHeartbeats 4000000 in
set_option maxRecDepth 100000 in
theorem joined_yes (X Y : Vc) (p q : Sl) (w : World) (hs : small X) (hs' : small Y) (hp : VecAt w X p) (hq : VecAt w Y q) (hg : goodB X = true) (hg' : goodB Y = true) (ek : (X.k != Y.k) = false) :
    Calls Try.prog 23 #[vecV X p, vecV Y q] w fun e w' => ∃ r, e = .returned (.tuple #[vecV (joinedV X Y).1 r, .int .i64 (joinedV X Y).2]) ∧ VecAt w' (joinedV X Y).1 r ∧ Fresh w.heap.size r ∧ Below w.heap.size w w' := by
  have HGX : Hid (∀ w', Below w.heap.size w w' → Calls Try.prog 13 #[vecV X p] w' fun e w'' => e = .returned (.bool (goodB X)) ∧ Below w'.heap.size w' w'') := fun w' hb => good_any X p w' hs (hp.later hb)
  have HGY : Hid (∀ w', Below w.heap.size w w' → Calls Try.prog 13 #[vecV Y q] w' fun e w'' => e = .returned (.bool (goodB Y)) ∧ Below w'.heap.size w' w'') := fun w' hb => good_any Y q w' hs' (hq.later hb)
  have HVX : Hid (∀ w', Below w.heap.size w w' → Calls Try.prog 17 #[vecV X p] w' fun e w'' => ∃ v, e = .returned v ∧ OwnV w'' w'.heap.size v (valsV X) ∧ Below w'.heap.size w' w'') := fun w' hb => values_any X p w' hs (hp.later hb)
  have HVY : Hid (∀ w', Below w.heap.size w w' → Calls Try.prog 17 #[vecV Y q] w' fun e w'' => ∃ v, e = .returned v ∧ OwnV w'' w'.heap.size v (valsV Y) ∧ Below w'.heap.size w' w'') := fun w' hb => values_any Y q w' hs' (hq.later hb)
  have hN : (valsV X).length ≤ 1048576 := Nat.le_trans (vals_le X) hs.1
  have hM : (valsV Y).length ≤ 1048576 := Nat.le_trans (vals_le Y) hs'.1
  generalize hR : joinedV X Y = R
  have HR := hide hR
  clear hR hp hq hs hs'
  rw [vecV_open, vecV_open]
  rw [hg] at HGX
  rw [hg'] at HGY
  obtain ⟨ZS, hZS⟩ : ∃ ZS, ZS = valsV X ++ valsV Y := ⟨_, rfl⟩
  have HZ := hide hZS
  have hzl : ZS.length ≤ 2097152 := by rw [hZS, List.length_append]; omega
  clear hZS
  have HE : Hid (R = (laidV X.k ZS, 0)) := by show _ = _; rw [unhide HZ, ← unhide HR, joinedV, if_neg (by rw [hg, hg']; simp), if_neg (by rw [ek]; simp)]
  clear hg hg'
  go_enter Try.func23, Try.ntmps23
  go_upto_region 5 with (first
    | (go_at_call_of 13 (Value.int IntKind.i64 X.k); refine (unhide HGX _ (below_alloc (below_alloc (below_alloc (Below.refl _ _) _) _) _)).mono ?_; rintro e w1 ⟨rfl, hb1⟩; obtain ⟨hr1, hr2, hv1, hbw⟩ := boxes3_facts (w := w) (X := X) (Y := Y) (p := p) (q := q) hb1; obtain ⟨s0, s1, s2, s3, _⟩ := box_facts hr2)
    | (go_at_call_of 13 (Value.int IntKind.i64 Y.k); refine (unhide HGY _ hbw).mono ?_; rintro e w2 ⟨rfl, hb2⟩; have hR1 := rowIs_later hr1 hb2; have hR2 := rowIs_later hr2 hb2; have hV1 := rowIs_later hv1 hb2; have hBW := below_step hbw hb2; clear s0 s1 s2 s3 hr1 hr2 hv1 hbw hb2; obtain ⟨t0, _⟩ := box_facts hR1; obtain ⟨o0, _⟩ := box_facts hR2))
  clear HGX HGY t0 o0
  have S2 := jS hBW.drew hR1.drew hR2.drew
  go_region_held3 (fun w' => Below w.heap.size w w' ∧ w'.cell? ⟨w.heap.size, 0, none⟩ = some (.int .i64 X.k) ∧ w'.cell? ⟨w.heap.size, 1, none⟩ = some (.slice p.a1 X.nl.length p.c1) ∧ w'.cell? ⟨w.heap.size, 2, none⟩ = some (.slice p.a2 X.ns.length p.c2) ∧ w'.cell? ⟨w.heap.size, 3, none⟩ = some (.slice p.a3 X.ss.length p.c3) ∧ w'.cell? ⟨w.heap.size + 1, 0, none⟩ = some (.int .i64 Y.k) ∧ w'.cell? ⟨w.heap.size + 1, 1, none⟩ = some (.slice q.a1 Y.nl.length q.c1) ∧ w'.cell? ⟨w.heap.size + 1, 2, none⟩ = some (.slice q.a2 Y.ns.length q.c2) ∧ w'.cell? ⟨w.heap.size + 1, 3, none⟩ = some (.slice q.a3 Y.ss.length q.c3))
    (first | assumption | exact jS (below_set42 hBW6 _ _ _ _) (rowIs_set4 hR16 (by omega) _ _ _ _) (rowIs_set4 hR26 (by omega) _ _ _ _))
    (first
      | (go_at_call_of 17 (Value.int IntKind.i64 X.k); refine (unhide HVX _ hBW.drew).mono ?_; rintro e w3 ⟨v3, rfl, ho3, hb3⟩; have hBW3 := below_step hBW.drew hb3; have hR13 := rowIs_later hR1.drew hb3; have hR23 := rowIs_later hR2.drew hb3; have hV13 := rowIs_later hV1.drew hb3; have S3 := jS hBW3 hR13 hR23; have hb3s := hb3.size; clear hb3)
      | (go_at_call_of 17 (Value.int IntKind.i64 Y.k); refine (unhide HVY _ hBW3).mono ?_; rintro e w4 ⟨v4, rfl, ho4, hb4⟩; have hBW4 := below_step hBW3 hb4; have hR14 := rowIs_later hR13 hb4; have hR24 := rowIs_later hR23 hb4; have hV14 := rowIs_later hV13 hb4; have S4 := jS hBW4 hR14 hR24; have ho34 := ho3.later hb4; have hbs4 := Nat.le_trans hb3s hb4.size; clear hb4)
      | (go_at_call 31; refine (laid_any a5 c5 X.k ZS w5 (by omega) hrow5).mono ?_; rintro e w6 ⟨r, rfl, hv6, hf6, hb6⟩; rw [vecV_open]; have hBW6 := below_step hBW5 hb6; have hR16 := rowIs_later hR15 hb6; have hR26 := rowIs_later hR25 hb6; have hV16 := rowIs_later hV15 hb6; have S6 := jS hBW6 hR16 hR26; obtain ⟨y0, y1, y2, y3, z0, z1, z2, z3⟩ := box_facts hV16)
      | (refine step_append_both (by rfl) (.tmp 24) (.tmp 26) (by rfl) _ _ v3 v4 (valsV X) (valsV Y) (by rfl) (by rfl) ho34 ho4 (by omega) hbs4 ?_; intro v5 w5 ho5 hgr5; rw [← unhide HZ] at ho5; have hR15 := grown_row hR14 ho34 hgr5; have hR25 := grown_row hR24 ho34 hgr5; have hV15 := grown_row hV14 ho34 hgr5; have hBW5 := hBW4.trans (grown_below hgr5 hBW4.size (fun g e => Nat.le_trans hBW.drew.size (ho34.lt g e).1)); have S5 := jS hBW5 hR15 hR25; obtain ⟨a5, c5, rfl, hrow5⟩ := ownV_row ho5))
  have hz6 : w.heap.size + 1 + 1 < w5.heap.size := hV15.lt
  clear S2 S3 S4 S5 S6
  go_wp2
  refine bodyPost_ret (v := .tuple #[vecV (laidV X.k ZS) r, .int .i64 0]) (by simp [results, Try.results23, go_sem, vecV, *]) rfl ?_
  rw [unhide HE]
  exact ⟨r, rfl, hv6.setO4 hf6 hz6 _ _ _ _, hf6.less (by omega), below_set42 hBW6 _ _ _ _⟩

theorem joined_any (X Y : Vc) (p q : Sl) (w : World) (hs : small X) (hs' : small Y) (hp : VecAt w X p) (hq : VecAt w Y q) :
    Calls Try.prog 23 #[vecV X p, vecV Y q] w fun e w' => ∃ r, e = .returned (.tuple #[vecV (joinedV X Y).1 r, .int .i64 (joinedV X Y).2]) ∧ VecAt w' (joinedV X Y).1 r ∧ Fresh w.heap.size r ∧ Below w.heap.size w w' := by
  cases h : (goodB X && goodB Y && !(X.k != Y.k))
  · exact joined_no X Y p q w hs hs' hp hq h
  · simp only [Bool.and_eq_true, Bool.not_eq_true'] at h
    exact joined_yes X Y p q w hs hs' hp hq h.1.1 h.1.2 h.2
end Go.Proofs.Ytifohbapfciniab
