import Derived.Test.YtifohbapfciniabVecX
import Derived.Test.YtifohbapfciniabVecQ
import Derived.Test.YtifohbapfciniabVecR
set_option linter.unusedSimpArgs false
set_option linter.unusedVariables false
namespace Go.Proofs.Ytifohbapfciniab
open Go.RowKit Go.Sort

theorem set3_row {w : World} {g t n B : Nat} {F : Nat → Value} (h : w.rowIs g t n F) (hne : g ≠ B) (v0 v1 v2 : Value) : (((w.setCell ⟨B, 0, none⟩ v0).setCell ⟨B, 1, none⟩ v1).setCell ⟨B, 2, none⟩ v2).rowIs g t n F :=
  ((h.setOther hne _).setOther hne _).setOther hne _
theorem boxes2_facts {w w' : World} {X Y : Vc} {p q : Sl} (h : Below (boxV (boxV w X p) Y q).heap.size (boxV (boxV w X p) Y q) w') :
    w'.rowIs w.heap.size 27 4 (box4 (.int .i64 X.k) (.slice p.a1 X.nl.length p.c1) (.slice p.a2 X.ns.length p.c2) (.slice p.a3 X.ss.length p.c3)) ∧
    w'.rowIs (w.heap.size + 1) 27 4 (box4 (.int .i64 Y.k) (.slice q.a1 Y.nl.length q.c1) (.slice q.a2 Y.ns.length q.c2) (.slice q.a3 Y.ss.length q.c3)) ∧ Below w.heap.size w w' := by
  refine ⟨rowIs_later ((box4_alloc w _ _ _ _).alloc _) h, ?_, below_step (below_alloc (below_alloc (Below.refl _ _) _) _) h⟩
  have := rowIs_later (box4_alloc (boxV w X p) (.int .i64 Y.k) (.slice q.a1 Y.nl.length q.c1) (.slice q.a2 Y.ns.length q.c2) (.slice q.a3 Y.ss.length q.c3)) h
  simpa [boxV] using this
theorem set3_below {w0 w : World} (h : Below w0.heap.size w0 w) {B : Nat} (hB : w0.heap.size ≤ B) (v0 v1 v2 : Value) : Below w0.heap.size w0 (((w.setCell ⟨B, 0, none⟩ v0).setCell ⟨B, 1, none⟩ v1).setCell ⟨B, 2, none⟩ v2) := ((h.setCell hB _).setCell hB _).setCell hB _
theorem RowAt.set3 {w : World} {a : Option Addr} {xs : List Val} {g : Nat} (h : RowAt w a xs) (hlt : ∀ ad, a = some ad → ad.block ≠ g) (v0 v1 v2 : Value) : RowAt (((w.setCell ⟨g, 0, none⟩ v0).setCell ⟨g, 1, none⟩ v1).setCell ⟨g, 2, none⟩ v2) a xs := by
  rcases h with h | ⟨b, off, rfl, h⟩
  · exact .inl h
  · have hb : b ≠ g := hlt _ rfl
    have e : ∀ (W : World) (j : Nat) (u : Value) (o : Nat), (W.setCell ⟨g, j, none⟩ u).cell? ⟨b, o, none⟩ = W.cell? ⟨b, o, none⟩ := fun W j u o => World.cell?_of_block (w := W) (Go.Deep.blk_setCell_other _ _ _ _ hb)
    exact .inr ⟨b, off, rfl, fun i x hx => by rw [e, e, e, e, e, e, e, e, e]; exact h i x hx⟩
/-- The cells that the great test reads. -/
theorem kS {w w' : World} {X : Vc} {p : Sl} {bx : Nat} {y : Val} (hb : Below w.heap.size w w')
    (h1 : w'.rowIs w.heap.size 27 4 (box4 (.int .i64 X.k) (.slice p.a1 X.nl.length p.c1) (.slice p.a2 X.ns.length p.c2) (.slice p.a3 X.ss.length p.c3))) (h2 : w'.rowIs bx 40 3 (box3 y)) :
    Below w.heap.size w w' ∧ w'.cell? ⟨w.heap.size, 0, none⟩ = some (.int .i64 X.k) ∧ w'.cell? ⟨w.heap.size, 1, none⟩ = some (.slice p.a1 X.nl.length p.c1) ∧ w'.cell? ⟨w.heap.size, 2, none⟩ = some (.slice p.a2 X.ns.length p.c2) ∧ w'.cell? ⟨w.heap.size, 3, none⟩ = some (.slice p.a3 X.ss.length p.c3) ∧ w'.cell? ⟨bx, 0, none⟩ = some (.int .i64 y.k) ∧ w'.cell? ⟨bx, 1, none⟩ = some (.int .i64 y.n) ∧ w'.cell? ⟨bx, 2, none⟩ = some (.string y.s) := by
  obtain ⟨t0, t1, t2, t3, _⟩ := box_facts h1
  obtain ⟨o0, o1, o2, _⟩ := box3_facts h2
  exact ⟨hb, t0, t1, t2, t3, o0, o1, o2⟩

theorem box4_set {w : World} {g : Nat} {a b c d v0 v1 v2 v3 : Value} (h : w.rowIs g 27 4 (box4 a b c d)) : ((((w.setCell ⟨g, 0, none⟩ v0).setCell ⟨g, 1, none⟩ v1).setCell ⟨g, 2, none⟩ v2).setCell ⟨g, 3, none⟩ v3).rowIs g 27 4 (box4 v0 v1 v2 v3) := by
  refine ((((h.set 0 _).set 1 _).set 2 _).set 3 _).congr fun i hi => ?_
  match i, hi with
  | 0, _ => rfl
  | 1, _ => rfl
  | 2, _ => rfl
  | 3, _ => rfl
theorem row4_set {w : World} {g : Nat} {F : Nat → Value} {v0 v1 v2 v3 : Value} (h : w.rowIs g 27 4 F) : ((((w.setCell ⟨g, 0, none⟩ v0).setCell ⟨g, 1, none⟩ v1).setCell ⟨g, 2, none⟩ v2).setCell ⟨g, 3, none⟩ v3).rowIs g 27 4 (box4 v0 v1 v2 v3) := by
  refine ((((h.set 0 _).set 1 _).set 2 _).set 3 _).congr fun i hi => ?_
  match i, hi with
  | 0, _ => rfl
  | 1, _ => rfl
  | 2, _ => rfl
  | 3, _ => rfl
theorem row4_facts {w : World} {g : Nat} {F : Nat → Value} (h : w.rowIs g 27 4 F) :
    w.cell? ⟨g, 0, none⟩ = some (F 0) ∧ w.cell? ⟨g, 1, none⟩ = some (F 1) ∧ w.cell? ⟨g, 2, none⟩ = some (F 2) ∧ w.cell? ⟨g, 3, none⟩ = some (F 3) ∧
    w.frozen? ⟨g, 0, none⟩ = false ∧ w.frozen? ⟨g, 1, none⟩ = false ∧ w.frozen? ⟨g, 2, none⟩ = false ∧ w.frozen? ⟨g, 3, none⟩ = false :=
  ⟨h.cell (by omega), h.cell (by omega), h.cell (by omega), h.cell (by omega), h.frozen _, h.frozen _, h.frozen _, h.frozen _⟩
theorem pick_fit (X : Vc) (places : List Int) (h : places.length ≤ 1048576) : fit (pickV X places).1 := by
  unfold pickV
  split
  · exact ⟨Nat.zero_le _, Nat.zero_le _, Nat.zero_le _⟩
  · split
    · exact ⟨Nat.zero_le _, Nat.zero_le _, Nat.zero_le _⟩
    · have hm : (pickL X places).length ≤ maxLen := by simp [pickL]; unfold maxLen; omega
      refine ⟨by simpa [laidV, nlOf] using hm, ?_, ?_⟩
      · simp only [laidV]; split <;> simp [hm]
      · simp only [laidV]; split <;> simp [hm]
theorem pick_err (X : Vc) (places : List Int) : -9223372036854775808 ≤ (pickV X places).2 ∧ (pickV X places).2 ≤ 9223372036854775807 := by
  unfold pickV
  split
  · simp
  · split <;> simp
theorem join_fit (X Y : Vc) (h : (valsV Y).length ≤ 1048576) (h' : (valsV X).length ≤ 1048576) : fit (joinedV X Y).1 := by
  unfold joinedV
  split
  · exact ⟨Nat.zero_le _, Nat.zero_le _, Nat.zero_le _⟩
  · split
    · exact ⟨Nat.zero_le _, Nat.zero_le _, Nat.zero_le _⟩
    · have hm : (valsV X ++ valsV Y).length ≤ maxLen := by rw [List.length_append]; unfold maxLen; omega
      generalize valsV X ++ valsV Y = zs at hm
      refine ⟨by simpa [laidV, nlOf] using hm, ?_, ?_⟩
      · simp only [laidV]; split <;> simp [hm]
      · simp only [laidV]; split <;> simp [hm]
theorem join_err (X Y : Vc) : -9223372036854775808 ≤ (joinedV X Y).2 ∧ (joinedV X Y).2 ≤ 9223372036854775807 := by
  unfold joinedV
  split
  · simp
  · split <;> simp

def inI (X : Vc) (i : Int) : Bool := decide (0 ≤ i) && decide (i < ((valsV X).length : Int))

set_option maxHeartbeats 8000000 in
set_option maxRecDepth 100000 in
theorem law_says (X Y : Vc) (p q : Sl) (aP : Option Addr) (cP : Nat) (places : List Int) (i : Int) (w : World) (hs : small X) (hs' : small Y) (hl : places.length ≤ 1048576) (hp : VecAt w X p) (hq : VecAt w Y q) (hpl : LisAt w aP (places.map (.int .i64))) :
    Calls Try.prog 4 #[vecV X p, vecV Y q, .slice aP places.length cP, .int .i64 i] w fun e w' => e = .returned (.bool true) ∧ Below w.heap.size w w' := by
  have H10 : Hid (∀ w', Below w.heap.size w w' → Calls Try.prog 10 #[vecV X p] w' fun e w'' => e = .returned (.bool (goodB X)) ∧ Below w'.heap.size w' w'') := fun w' hb => rgood_any X p w' hs (hp.later hb)
  have H11 : Hid (∀ w', Below w.heap.size w w' → Calls Try.prog 11 #[vecV X p] w' fun e w'' => ∃ v, e = .returned v ∧ OwnV w'' w'.heap.size v (valsV X) ∧ Below w'.heap.size w' w'') := fun w' hb => rvalues_any X p w' hs (hp.later hb)
  have H13 : Hid (∀ w', Below w.heap.size w w' → Calls Try.prog 13 #[vecV X p] w' fun e w'' => e = .returned (.bool (goodB X)) ∧ Below w'.heap.size w' w'') := fun w' hb => good_any X p w' hs (hp.later hb)
  have H14 : Hid (∀ w', Below w.heap.size w w' → Calls Try.prog 14 #[vecV X p] w' fun e w'' => e = .returned (.int .i64 ((valsV X).length : Nat)) ∧ Below w'.heap.size w' w'') := fun w' hb => len_any X p w' hs (hp.later hb)
  have H15 : Hid (∀ w', Below w.heap.size w w' → Calls Try.prog 15 #[vecV X p, .int .i64 i] w' fun e w'' => e = .returned (atI X i).v ∧ Below w'.heap.size w' w'') := fun w' hb => atpub_any X p w' i hs (hp.later hb)
  have H17 : Hid (∀ w', Below w.heap.size w w' → Calls Try.prog 17 #[vecV X p] w' fun e w'' => ∃ v, e = .returned v ∧ OwnV w'' w'.heap.size v (valsV X) ∧ Below w'.heap.size w' w'') := fun w' hb => values_any X p w' hs (hp.later hb)
  have H19 : Hid (∀ w', Below w.heap.size w w' → Calls Try.prog 19 #[vecV X p] w' fun e w'' => ∃ v, e = .returned v ∧ OwnI w'' w'.heap.size v (plN (valsV X) (valsV X).length) ∧ Below w'.heap.size w' w'') := fun w' hb => places_any X p w' hs (hp.later hb)
  have H20 : Hid (∀ w', Below w.heap.size w w' → Calls Try.prog 20 #[vecV X p] w' fun e w'' => ∃ v, e = .returned v ∧ OwnI w'' w'.heap.size v (plN (valsV X) (valsV X).length) ∧ Below w'.heap.size w' w'') := fun w' hb => rplaces_any X p w' hs (hp.later hb)
  have H21 : Hid (∀ w', Below w.heap.size w w' → Calls Try.prog 21 #[vecV X p, .slice aP places.length cP] w' fun e w'' => ∃ r, e = .returned (.tuple #[vecV (pickV X places).1 r, .int .i64 (pickV X places).2]) ∧ VecAt w'' (pickV X places).1 r ∧ Fresh w'.heap.size r ∧ Below w'.heap.size w' w'') := fun w' hb => pick_any X p aP cP places w' hs hl (hp.later hb) (hpl.later hb)
  have H22 : Hid (∀ w', Below w.heap.size w w' → Calls Try.prog 22 #[vecV X p, .slice aP places.length cP] w' fun e w'' => ∃ r, e = .returned (.tuple #[vecV (pickV X places).1 r, .int .i64 (pickV X places).2]) ∧ VecAt w'' (pickV X places).1 r ∧ Fresh w'.heap.size r ∧ Below w'.heap.size w' w'') := fun w' hb => rpick_any X p aP cP places w' hs hl (hp.later hb) (hpl.later hb)
  have H23 : Hid (∀ w', Below w.heap.size w w' → Calls Try.prog 23 #[vecV X p, vecV Y q] w' fun e w'' => ∃ r, e = .returned (.tuple #[vecV (joinedV X Y).1 r, .int .i64 (joinedV X Y).2]) ∧ VecAt w'' (joinedV X Y).1 r ∧ Fresh w'.heap.size r ∧ Below w'.heap.size w' w'') := fun w' hb => joined_any X Y p q w' hs hs' (hp.later hb) (hq.later hb)
  have H24 : Hid (∀ w', Below w.heap.size w w' → Calls Try.prog 24 #[vecV X p, vecV Y q] w' fun e w'' => ∃ r, e = .returned (.tuple #[vecV (joinedV X Y).1 r, .int .i64 (joinedV X Y).2]) ∧ VecAt w'' (joinedV X Y).1 r ∧ Fresh w'.heap.size r ∧ Below w'.heap.size w' w'') := fun w' hb => rjoined_any X Y p q w' hs hs' (hp.later hb) (hq.later hb)
  have H13' : Hid (∀ w', Calls Try.prog 13 #[vecV ⟨1, [], [], []⟩ ⟨none, 0, none, 0, none, 0⟩] w' fun e w'' => e = .returned (.bool true) ∧ Below w'.heap.size w' w'') := fun w' => good_any ⟨1, [], [], []⟩ ⟨none, 0, none, 0, none, 0⟩ w' ⟨by simp, by simp, by simp⟩ ⟨.inl rfl, .inl rfl, .inl rfl⟩
  have hN : (valsV X).length ≤ 1048576 := Nat.le_trans (vals_le X) hs.1
  have HPF := hide (pick_fit X places (by omega))
  have HJF := hide (join_fit X Y (by have := vals_le Y; have := hs'.1; omega) hN)
  obtain ⟨pe1, pe2⟩ := pick_err X places
  obtain ⟨je1, je2⟩ := join_err X Y
  have HAI : Hid (inI X i = false → atI X i = .null) := fun h => by
    rw [atI, if_neg]; intro hh; simp [inI, hh.1, hh.2] at h
  have HAJ : Hid (inI X i = true → ∃ j : Nat, i = (j : Int) ∧ (valsV X)[j]? = some (atI X i)) := fun h => by
    simp [inI] at h
    obtain ⟨hg, hi, he⟩ := atI_in h.1 h.2
    exact ⟨i.toNat, by omega, by rw [he]; exact vals_at hg hi⟩
  have HII : Hid (inI X i = (decide (0 ≤ i) && decide (i < ((valsV X).length : Int)))) := rfl
  generalize inI X i = bI at HAI HAJ HII
  generalize pickV X places = PK at H21 H22 HPF pe1 pe2
  generalize joinedV X Y = JN at H23 H24 HJF je1 je2
  obtain ⟨PX, pe⟩ := PK
  obtain ⟨JX, je⟩ := JN
  simp only at H21 H22 H23 H24 HPF HJF pe1 pe2 je1 je2
  have hPL : (plN (valsV X) (valsV X).length).length ≤ 1048576 := Nat.le_trans (plN_len _ _) hN
  generalize plN (valsV X) (valsV X).length = PL at H19 H20 hPL
  generalize valsV X = ys at H11 H14 H17 HAJ HII hN
  generalize goodB X = G at H10 H13
  generalize atI X i = y at H15 HAI HAJ
  clear hp hq hpl hs hs'
  rw [vecV_open, vecV_open]
  go_enter Try.func4, Try.ntmps4
  go_upto_region 4 with (first
    | (go_at_call 10; refine (unhide H10 _ (below_alloc (below_alloc (Below.refl _ _) _) _)).mono ?_; rintro e w1 ⟨rfl, hb1⟩; obtain ⟨hr1, hr2, hB1⟩ := boxes2_facts (w := w) (X := X) (Y := Y) (p := p) (q := q) hb1; clear hb1; obtain ⟨t0, t1, t2, t3, _⟩ := box_facts hr1)
    | (go_at_call 11; refine (unhide H11 _ hB1).mono ?_; rintro e w2 ⟨v2, rfl, ho2, hb2⟩; obtain ⟨a10, c10, rfl, hl2⟩ := ownV_row ho2; clear ho2; have hB2 := below_step hB1 hb2; have hr12 := rowIs_later hr1 hb2; have hr22 := rowIs_later hr2 hb2; clear hr1 hr2 hb2 t0 t1 t2 t3 hB1)
    | (go_at_call 12; refine (none_any _).mono ?_; rintro e w3 ⟨rfl, hb3⟩; rw [Val.open_]; have hB3 := below_step hB2 hb3; have hr13 := rowIs_later hr12 hb3; have hr23 := rowIs_later hr22 hb3; have hl3 := hl2.later hb3; clear hr12 hr22 hl2 hb3 hB2))
  go_cut [28] (fun s28 wx => s28 = .bool bI ∧ wx = w3.alloc (.cells #[.int .i64 Val.null.k, .int .i64 Val.null.n, .string Val.null.s] 40))
  case first =>
    by_cases h0 : 0 ≤ i
    · by_cases h1 : i < (ys.length : Int)
      · go_wp2
        go_meet
        exact ⟨by rw [unhide HII]; simp [h0, h1], rfl⟩
      · go_wp2
        go_meet
        exact ⟨by rw [unhide HII]; first | (simp [h0, h1]; done) | (simp [h0, h1]; omega), rfl⟩
    · go_wp2
      go_meet
      exact ⟨by rw [unhide HII]; first | (simp [h0]; done) | (simp [h0]; omega) | (simp [h0]; intro _; omega), rfl⟩
  case rest =>
  obtain ⟨rfl, rfl⟩ := hcut
  have hxn := box3_alloc w3 Val.null
  have hz3 : w.heap.size + 1 < w3.heap.size := hr23.lt
  cases bI
  · have hy := unhide HAI rfl
    rw [← hy] at hxn ⊢
    have hx4 := hxn
    have hB4 := below_alloc hB3 (.cells #[.int .i64 y.k, .int .i64 y.n, .string y.s] 40)
    have hr14 := hr13.alloc (.cells #[.int .i64 y.k, .int .i64 y.n, .string y.s] 40)
    have hr24 := hr23.alloc (.cells #[.int .i64 y.k, .int .i64 y.n, .string y.s] 40)
    have hl4 := hl3.later (below_alloc (Below.refl _ w3) (.cells #[.int .i64 y.k, .int .i64 y.n, .string y.s] 40))
    clear hy hxn HAI HAJ HII hB3 hr13 hr23 hl3
    go_upto_region 6 with fail
    have hB0 := hB4.drew
    have r0 := hr14.drew
    have s0 := hr24.drew
    have x0 := hx4.drew
    have l0 := hl4.later (Below.refl _ _).drew
    have S0 := kS hB0 r0 x0
    go_cut [65] (fun s65 wz => s65 = .bool false ∧ Below w.heap.size w wz ∧ wz.rowIs w.heap.size 27 4 (box4 (.int .i64 X.k) (.slice p.a1 X.nl.length p.c1) (.slice p.a2 X.ns.length p.c2) (.slice p.a3 X.ss.length p.c3)) ∧ wz.rowIs (w.heap.size + 1) 27 4 (box4 (.int .i64 Y.k) (.slice q.a1 Y.nl.length q.c1) (.slice q.a2 Y.ns.length q.c2) (.slice q.a3 Y.ss.length q.c3)))
    case first =>
      go_region_held3 (fun w' => Below w.heap.size w w' ∧ w'.cell? ⟨w.heap.size, 0, none⟩ = some (.int .i64 X.k) ∧ w'.cell? ⟨w.heap.size, 1, none⟩ = some (.slice p.a1 X.nl.length p.c1) ∧ w'.cell? ⟨w.heap.size, 2, none⟩ = some (.slice p.a2 X.ns.length p.c2) ∧ w'.cell? ⟨w.heap.size, 3, none⟩ = some (.slice p.a3 X.ss.length p.c3) ∧ w'.cell? ⟨w3.heap.size, 0, none⟩ = some (.int .i64 y.k) ∧ w'.cell? ⟨w3.heap.size, 1, none⟩ = some (.int .i64 y.n) ∧ w'.cell? ⟨w3.heap.size, 2, none⟩ = some (.string y.s))
        (assumption)
        (first
        | (go_at_call 13; refine (unhide H13 _ hB0).mono ?_; rintro e w13 ⟨rfl, hb⟩; have hB13 := below_step hB0 hb; have r13 := rowIs_later r0 hb; have s13 := rowIs_later s0 hb; have x13 := rowIs_later x0 hb; have l13 := l0.later hb; have S13 := kS hB13 r13 x13; clear hb)
        | (go_at_call 14; refine (unhide H14 _ hB13).mono ?_; rintro e w14 ⟨rfl, hb⟩; have hB14 := below_step hB13 hb; have r14 := rowIs_later r13 hb; have s14 := rowIs_later s13 hb; have x14 := rowIs_later x13 hb; have l14 := l13.later hb; have S14 := kS hB14 r14 x14; clear hb)
        | (go_at_call 15; refine (unhide H15 _ hB14).mono ?_; rintro e w15 ⟨rfl, hb⟩; rw [Val.open_]; have hB15 := below_step hB14 hb; have r15 := rowIs_later r14 hb; have s15 := rowIs_later s14 hb; have x15 := rowIs_later x14 hb; have l15 := l14.later hb; have S15 := kS hB15 r15 x15; clear hb)
        | (go_at_call 17; refine (unhide H17 _ hB15).mono ?_; rintro e w17 ⟨v17, rfl, ho17, hb⟩; have hB17 := below_step hB15 hb; have r17 := rowIs_later r15 hb; have s17 := rowIs_later s15 hb; have x17 := rowIs_later x15 hb; have l17 := l15.later hb; have S17 := kS hB17 r17 x17; obtain ⟨a17, c17, rfl, k17⟩ := ownV_row ho17; clear ho17; clear hb)
        | (go_at_call 16; refine (samerow_same a17 a10 c17 c10 ys w17 (by unfold maxLen; omega) k17 l17).mono ?_; rintro e w16 ⟨rfl, hb⟩; have hB16 := below_step hB17 hb; have r16 := rowIs_later r17 hb; have s16 := rowIs_later s17 hb; have x16 := rowIs_later x17 hb; have l16 := l17.later hb; have S16 := kS hB16 r16 x16; clear hb)
        | (go_at_call 19; refine (unhide H19 _ hB16).mono ?_; rintro e w19 ⟨v19, rfl, ho19, hb⟩; have hB19 := below_step hB16 hb; have r19 := rowIs_later r16 hb; have s19 := rowIs_later s16 hb; have x19 := rowIs_later x16 hb; have l19 := l16.later hb; have S19 := kS hB19 r19 x19; obtain ⟨a19, c19, rfl, k19, _⟩ := lis_of_own ho19; clear ho19; clear hb)
        | (go_at_call 20; refine (unhide H20 _ hB19).mono ?_; rintro e w20 ⟨v20, rfl, ho20, hb⟩; have hB20 := below_step hB19 hb; have r20 := rowIs_later r19 hb; have s20 := rowIs_later s19 hb; have x20 := rowIs_later x19 hb; have l20 := l19.later hb; have S20 := kS hB20 r20 x20; obtain ⟨a20, c20, rfl, k20, _⟩ := lis_of_own ho20; clear ho20; have k19b := k19.later hb; clear hb)
        | (go_at_call 18; refine (samenums_same a19 a20 c19 c20 PL w20 (by unfold maxLen; omega) k19b k20).mono ?_; rintro e w18 ⟨rfl, hb⟩; have hB18 := below_step hB20 hb; have r18 := rowIs_later r20 hb; have s18 := rowIs_later s20 hb; have x18 := rowIs_later x20 hb; have l18 := l20.later hb; have S18 := kS hB18 r18 x18; clear hb))
      go_wp2
      go_meet
      exact ⟨rfl, hB18, r18, s18⟩
    case rest =>
      obtain ⟨rfl, hB5, hr15, hr25⟩ := hcut
      rename World => wz
      obtain ⟨t0, t1, t2, t3, _⟩ := box_facts hr15
      go_upto_region 12 with (first
        | (go_at_call 21; refine (unhide H21 _ hB5).mono ?_; rintro e w21 ⟨m1, rfl, hv21, hf21, hb⟩; rw [vecV_open]; have hB21 := below_step hB5 hb; have r21 := rowIs_later hr15 hb; have s21 := rowIs_later hr25 hb; obtain ⟨t0, t1, t2, t3, _⟩ := box_facts r21; have z21 : w.heap.size + 1 < w21.heap.size := s21.lt; have z20 : w.heap.size < w21.heap.size := r21.lt; clear hb)
        | (go_at_call 22; refine (unhide H22 _ (below_alloc hB21 _)).mono ?_; rintro e w22 ⟨m2, rfl, hv22, hf22, hb⟩; rw [vecV_open]; have hB22 := below_step (below_alloc hB21 _) hb; have r22 := rowIs_later (r21.alloc _) hb; have s22 := rowIs_later (s21.alloc _) hb; have p22 := rowIs_later (box4_alloc w21 _ _ _ _) hb; have hv21b := (hv21.later (below_alloc (Below.refl _ _) _)).later hb; obtain ⟨g0, g1, g2, g3, _⟩ := box_facts p22; have z22 : w21.heap.size < w22.heap.size := p22.lt; have z23 : w.heap.size < w22.heap.size := r22.lt; clear hb)
        | (go_at_call 8; refine (num_any _ _ ⟨pe1, pe2⟩).mono ?_; rintro e w8 ⟨rfl, rfl⟩)
        | (go_at_call 9; refine (samevec_same PX m1 m2 _ (unhide HPF) (hv21b.later (below_alloc (Below.refl _ _) _)) (hv22.later (below_alloc (Below.refl _ _) _))).mono ?_; rintro e w9 ⟨rfl, hb⟩; have hB9 := below_step (below_alloc hB22 _) hb; have r9 := rowIs_later (r22.alloc _) hb; have s9 := rowIs_later (s22.alloc _) hb; have p9 := rowIs_later (p22.alloc _) hb; have q9 := rowIs_later (box4_alloc w22 _ _ _ _) hb; clear hb))
      clear hv21 hv22 hv21b hf21 hf22
      have z9 : w22.heap.size < w9.heap.size := q9.lt
      go_cut [13] (fun s13 wy => s13 = .int .i64 je ∧ Below w.heap.size w wy ∧ wy.rowIs w.heap.size 27 4 (box4 (.int .i64 X.k) (.slice p.a1 X.nl.length p.c1) (.slice p.a2 X.ns.length p.c2) (.slice p.a3 X.ss.length p.c3)) ∧ wy.rowIs (w.heap.size + 1) 27 4 (box4 (.int .i64 Y.k) (.slice q.a1 Y.nl.length q.c1) (.slice q.a2 Y.ns.length q.c2) (.slice q.a3 Y.ss.length q.c3)) ∧ (∃ F, wy.rowIs w22.heap.size 27 4 F) ∧ ∃ r, wy.rowIs w21.heap.size 27 4 (box4 (.int .i64 JX.k) (.slice r.a1 JX.nl.length r.c1) (.slice r.a2 JX.ns.length r.c2) (.slice r.a3 JX.ss.length r.c3)) ∧ VecAt wy JX r ∧ Fresh w9.heap.size r)
      case first =>
        obtain ⟨t0, t1, t2, t3, _⟩ := box_facts r9
        obtain ⟨o0, o1, o2, o3, _⟩ := box_facts s9
        go_wp2_with (go_at_call 23; refine (unhide H23 _ hB9).mono ?_; rintro e w23 ⟨m3, rfl, hv23, hf23, hb⟩; rw [vecV_open]; have p23 := rowIs_later p9 hb; obtain ⟨g0, g1, g2, g3, f0, f1, f2, f3⟩ := box_facts p23)
        go_meet
        exact ⟨rfl, below_set4 (below_step hB9 hb) (by omega) _ _ _ _, rowIs_set4 (rowIs_later r9 hb) (by omega) _ _ _ _, rowIs_set4 (rowIs_later s9 hb) (by omega) _ _ _ _, ⟨_, rowIs_set4 (rowIs_later q9 hb) (by omega) _ _ _ _⟩, m3, box4_set p23, hv23.setO4 hf23 (by omega) _ _ _ _, hf23⟩
      case rest =>
        obtain ⟨rfl, hBa, ra, sa, ⟨F, qa⟩, m3, pa, hva, hfa⟩ := hcut
        rename World => wy
        clear r9 s9 p9 q9 hB9
        go_upto_region 13 with fail
        go_cut [15] (fun s15 wv => s15 = .int .i64 je ∧ Below w.heap.size w wv ∧ (∃ r, wv.rowIs w21.heap.size 27 4 (box4 (.int .i64 JX.k) (.slice r.a1 JX.nl.length r.c1) (.slice r.a2 JX.ns.length r.c2) (.slice r.a3 JX.ss.length r.c3)) ∧ VecAt wv JX r) ∧ ∃ r, wv.rowIs w22.heap.size 27 4 (box4 (.int .i64 JX.k) (.slice r.a1 JX.nl.length r.c1) (.slice r.a2 JX.ns.length r.c2) (.slice r.a3 JX.ss.length r.c3)) ∧ VecAt wv JX r)
        case first =>
          obtain ⟨t0, t1, t2, t3, _⟩ := box_facts ra
          obtain ⟨o0, o1, o2, o3, _⟩ := box_facts sa
          go_wp2_with (go_at_call 24; refine (unhide H24 _ hBa).mono ?_; rintro e w24 ⟨m4, rfl, hv24, hf24, hb⟩; rw [vecV_open]; have q24 := rowIs_later qa hb; obtain ⟨g0, g1, g2, g3, f0, f1, f2, f3⟩ := row4_facts q24)
          go_meet
          exact ⟨rfl, below_set4 (below_step hBa hb) (by omega) _ _ _ _, ⟨m3, rowIs_set4 (rowIs_later pa hb) (by omega) _ _ _ _, (hva.later hb).setO4 hfa (by omega) _ _ _ _⟩, m4, row4_set q24, hv24.setO4 hf24 qa.lt _ _ _ _⟩
        case rest =>
          obtain ⟨rfl, hBv, ⟨m5, pv, hv5⟩, m6, qv, hv6⟩ := hcut
          rename World => wv
          obtain ⟨t0, t1, t2, t3, _⟩ := box_facts pv
          obtain ⟨o0, o1, o2, o3, _⟩ := box_facts qv
          go_wp2_with (first
            | (go_at_call 8; refine (num_any _ _ ⟨je1, je2⟩).mono ?_; rintro e w8 ⟨rfl, rfl⟩)
            | (go_at_call 9; refine (samevec_same JX m5 m6 _ (unhide HJF) hv5 hv6).mono ?_; rintro e w9b ⟨rfl, hb9b⟩)
            | (go_at_call 13; refine (unhide H13' _).mono ?_; rintro e w13b ⟨rfl, hb13b⟩))
          go_ret
          exact ⟨rfl, below_step (below_step hBv hb9b) hb13b⟩
  · obtain ⟨j, hj, hyj⟩ := unhide HAJ rfl
    subst hj
    rcases hl3 with e | ⟨ba, oa, e, hca⟩
    · rw [e] at hyj; cases hyj
    subst e
    have hlr : RowAt w3 (some ⟨ba, oa, none⟩) ys := .inr ⟨ba, oa, rfl, hca⟩
    obtain ⟨c0, c1, c2⟩ := hca j y hyj
    have hbl : ba < w3.heap.size := by have := World.block_lt_of_cell? _ _ c0; simpa using this
    have ij : (j : Int) < (ys.length : Int) := by have := (List.getElem?_eq_some_iff.1 hyj).1; omega
    have hx4 := box3_alloc w3 y
    have hB4 := below_alloc hB3 (.cells #[.int .i64 y.k, .int .i64 y.n, .string y.s] 40)
    have hr14 := hr13.alloc (.cells #[.int .i64 y.k, .int .i64 y.n, .string y.s] 40)
    have hr24 := hr23.alloc (.cells #[.int .i64 y.k, .int .i64 y.n, .string y.s] 40)
    have hl4 := hlr.later (below_alloc (Below.refl _ w3) (.cells #[.int .i64 y.k, .int .i64 y.n, .string y.s] 40))
    clear HAI HAJ HII hB3 hr13 hr23 hca hyj hlr
    obtain ⟨n0, n1, n2, fz0, fz1, fz2⟩ := box3_facts hxn
    clear hxn
    go_upto_region 6 with fail
    have hB0 := hB4.drew
    have r0 := hr14.drew
    have s0 := hr24.drew
    have x0 := hx4.drew
    have l0 := hl4.later (Below.refl _ _).drew
    have S0 := kS hB0 r0 x0
    go_cut [65] (fun s65 wz => s65 = .bool false ∧ Below w.heap.size w wz ∧ wz.rowIs w.heap.size 27 4 (box4 (.int .i64 X.k) (.slice p.a1 X.nl.length p.c1) (.slice p.a2 X.ns.length p.c2) (.slice p.a3 X.ss.length p.c3)) ∧ wz.rowIs (w.heap.size + 1) 27 4 (box4 (.int .i64 Y.k) (.slice q.a1 Y.nl.length q.c1) (.slice q.a2 Y.ns.length q.c2) (.slice q.a3 Y.ss.length q.c3)))
    case first =>
      go_region_held3 (fun w' => Below w.heap.size w w' ∧ w'.cell? ⟨w.heap.size, 0, none⟩ = some (.int .i64 X.k) ∧ w'.cell? ⟨w.heap.size, 1, none⟩ = some (.slice p.a1 X.nl.length p.c1) ∧ w'.cell? ⟨w.heap.size, 2, none⟩ = some (.slice p.a2 X.ns.length p.c2) ∧ w'.cell? ⟨w.heap.size, 3, none⟩ = some (.slice p.a3 X.ss.length p.c3) ∧ w'.cell? ⟨w3.heap.size, 0, none⟩ = some (.int .i64 y.k) ∧ w'.cell? ⟨w3.heap.size, 1, none⟩ = some (.int .i64 y.n) ∧ w'.cell? ⟨w3.heap.size, 2, none⟩ = some (.string y.s))
        (assumption)
        (first
        | (go_at_call 13; refine (unhide H13 _ hB0).mono ?_; rintro e w13 ⟨rfl, hb⟩; have hB13 := below_step hB0 hb; have r13 := rowIs_later r0 hb; have s13 := rowIs_later s0 hb; have x13 := rowIs_later x0 hb; have l13 := l0.later hb; have S13 := kS hB13 r13 x13; clear hb)
        | (go_at_call 14; refine (unhide H14 _ hB13).mono ?_; rintro e w14 ⟨rfl, hb⟩; have hB14 := below_step hB13 hb; have r14 := rowIs_later r13 hb; have s14 := rowIs_later s13 hb; have x14 := rowIs_later x13 hb; have l14 := l13.later hb; have S14 := kS hB14 r14 x14; clear hb)
        | (go_at_call 15; refine (unhide H15 _ hB14).mono ?_; rintro e w15 ⟨rfl, hb⟩; rw [Val.open_]; have hB15 := below_step hB14 hb; have r15 := rowIs_later r14 hb; have s15 := rowIs_later s14 hb; have x15 := rowIs_later x14 hb; have l15 := l14.later hb; have S15 := kS hB15 r15 x15; clear hb)
        | (go_at_call 17; refine (unhide H17 _ hB15).mono ?_; rintro e w17 ⟨v17, rfl, ho17, hb⟩; have hB17 := below_step hB15 hb; have r17 := rowIs_later r15 hb; have s17 := rowIs_later s15 hb; have x17 := rowIs_later x15 hb; have l17 := l15.later hb; have S17 := kS hB17 r17 x17; obtain ⟨a17, c17, rfl, k17⟩ := ownV_row ho17; clear ho17; clear hb)
        | (go_at_call 16; refine (samerow_same a17 (some ⟨ba, oa, none⟩) c17 c10 ys w17 (by unfold maxLen; omega) k17 l17).mono ?_; rintro e w16 ⟨rfl, hb⟩; have hB16 := below_step hB17 hb; have r16 := rowIs_later r17 hb; have s16 := rowIs_later s17 hb; have x16 := rowIs_later x17 hb; have l16 := l17.later hb; have S16 := kS hB16 r16 x16; clear hb)
        | (go_at_call 19; refine (unhide H19 _ hB16).mono ?_; rintro e w19 ⟨v19, rfl, ho19, hb⟩; have hB19 := below_step hB16 hb; have r19 := rowIs_later r16 hb; have s19 := rowIs_later s16 hb; have x19 := rowIs_later x16 hb; have l19 := l16.later hb; have S19 := kS hB19 r19 x19; obtain ⟨a19, c19, rfl, k19, _⟩ := lis_of_own ho19; clear ho19; clear hb)
        | (go_at_call 20; refine (unhide H20 _ hB19).mono ?_; rintro e w20 ⟨v20, rfl, ho20, hb⟩; have hB20 := below_step hB19 hb; have r20 := rowIs_later r19 hb; have s20 := rowIs_later s19 hb; have x20 := rowIs_later x19 hb; have l20 := l19.later hb; have S20 := kS hB20 r20 x20; obtain ⟨a20, c20, rfl, k20, _⟩ := lis_of_own ho20; clear ho20; have k19b := k19.later hb; clear hb)
        | (go_at_call 18; refine (samenums_same a19 a20 c19 c20 PL w20 (by unfold maxLen; omega) k19b k20).mono ?_; rintro e w18 ⟨rfl, hb⟩; have hB18 := below_step hB20 hb; have r18 := rowIs_later r20 hb; have s18 := rowIs_later s20 hb; have x18 := rowIs_later x20 hb; have l18 := l20.later hb; have S18 := kS hB18 r18 x18; clear hb))
      go_wp2
      go_meet
      exact ⟨rfl, hB18, r18, s18⟩
    case rest =>
      obtain ⟨rfl, hB5, hr15, hr25⟩ := hcut
      rename World => wz
      obtain ⟨t0, t1, t2, t3, _⟩ := box_facts hr15
      go_upto_region 12 with (first
        | (go_at_call 21; refine (unhide H21 _ hB5).mono ?_; rintro e w21 ⟨m1, rfl, hv21, hf21, hb⟩; rw [vecV_open]; have hB21 := below_step hB5 hb; have r21 := rowIs_later hr15 hb; have s21 := rowIs_later hr25 hb; obtain ⟨t0, t1, t2, t3, _⟩ := box_facts r21; have z21 : w.heap.size + 1 < w21.heap.size := s21.lt; have z20 : w.heap.size < w21.heap.size := r21.lt; clear hb)
        | (go_at_call 22; refine (unhide H22 _ (below_alloc hB21 _)).mono ?_; rintro e w22 ⟨m2, rfl, hv22, hf22, hb⟩; rw [vecV_open]; have hB22 := below_step (below_alloc hB21 _) hb; have r22 := rowIs_later (r21.alloc _) hb; have s22 := rowIs_later (s21.alloc _) hb; have p22 := rowIs_later (box4_alloc w21 _ _ _ _) hb; have hv21b := (hv21.later (below_alloc (Below.refl _ _) _)).later hb; obtain ⟨g0, g1, g2, g3, _⟩ := box_facts p22; have z22 : w21.heap.size < w22.heap.size := p22.lt; have z23 : w.heap.size < w22.heap.size := r22.lt; clear hb)
        | (go_at_call 8; refine (num_any _ _ ⟨pe1, pe2⟩).mono ?_; rintro e w8 ⟨rfl, rfl⟩)
        | (go_at_call 9; refine (samevec_same PX m1 m2 _ (unhide HPF) (hv21b.later (below_alloc (Below.refl _ _) _)) (hv22.later (below_alloc (Below.refl _ _) _))).mono ?_; rintro e w9 ⟨rfl, hb⟩; have hB9 := below_step (below_alloc hB22 _) hb; have r9 := rowIs_later (r22.alloc _) hb; have s9 := rowIs_later (s22.alloc _) hb; have p9 := rowIs_later (p22.alloc _) hb; have q9 := rowIs_later (box4_alloc w22 _ _ _ _) hb; clear hb))
      clear hv21 hv22 hv21b hf21 hf22
      have z9 : w22.heap.size < w9.heap.size := q9.lt
      go_cut [13] (fun s13 wy => s13 = .int .i64 je ∧ Below w.heap.size w wy ∧ wy.rowIs w.heap.size 27 4 (box4 (.int .i64 X.k) (.slice p.a1 X.nl.length p.c1) (.slice p.a2 X.ns.length p.c2) (.slice p.a3 X.ss.length p.c3)) ∧ wy.rowIs (w.heap.size + 1) 27 4 (box4 (.int .i64 Y.k) (.slice q.a1 Y.nl.length q.c1) (.slice q.a2 Y.ns.length q.c2) (.slice q.a3 Y.ss.length q.c3)) ∧ (∃ F, wy.rowIs w22.heap.size 27 4 F) ∧ ∃ r, wy.rowIs w21.heap.size 27 4 (box4 (.int .i64 JX.k) (.slice r.a1 JX.nl.length r.c1) (.slice r.a2 JX.ns.length r.c2) (.slice r.a3 JX.ss.length r.c3)) ∧ VecAt wy JX r ∧ Fresh w9.heap.size r)
      case first =>
        obtain ⟨t0, t1, t2, t3, _⟩ := box_facts r9
        obtain ⟨o0, o1, o2, o3, _⟩ := box_facts s9
        go_wp2_with (go_at_call 23; refine (unhide H23 _ hB9).mono ?_; rintro e w23 ⟨m3, rfl, hv23, hf23, hb⟩; rw [vecV_open]; have p23 := rowIs_later p9 hb; obtain ⟨g0, g1, g2, g3, f0, f1, f2, f3⟩ := box_facts p23)
        go_meet
        exact ⟨rfl, below_set4 (below_step hB9 hb) (by omega) _ _ _ _, rowIs_set4 (rowIs_later r9 hb) (by omega) _ _ _ _, rowIs_set4 (rowIs_later s9 hb) (by omega) _ _ _ _, ⟨_, rowIs_set4 (rowIs_later q9 hb) (by omega) _ _ _ _⟩, m3, box4_set p23, hv23.setO4 hf23 (by omega) _ _ _ _, hf23⟩
      case rest =>
        obtain ⟨rfl, hBa, ra, sa, ⟨F, qa⟩, m3, pa, hva, hfa⟩ := hcut
        rename World => wy
        clear r9 s9 p9 q9 hB9
        go_upto_region 13 with fail
        go_cut [15] (fun s15 wv => s15 = .int .i64 je ∧ Below w.heap.size w wv ∧ (∃ r, wv.rowIs w21.heap.size 27 4 (box4 (.int .i64 JX.k) (.slice r.a1 JX.nl.length r.c1) (.slice r.a2 JX.ns.length r.c2) (.slice r.a3 JX.ss.length r.c3)) ∧ VecAt wv JX r) ∧ ∃ r, wv.rowIs w22.heap.size 27 4 (box4 (.int .i64 JX.k) (.slice r.a1 JX.nl.length r.c1) (.slice r.a2 JX.ns.length r.c2) (.slice r.a3 JX.ss.length r.c3)) ∧ VecAt wv JX r)
        case first =>
          obtain ⟨t0, t1, t2, t3, _⟩ := box_facts ra
          obtain ⟨o0, o1, o2, o3, _⟩ := box_facts sa
          go_wp2_with (go_at_call 24; refine (unhide H24 _ hBa).mono ?_; rintro e w24 ⟨m4, rfl, hv24, hf24, hb⟩; rw [vecV_open]; have q24 := rowIs_later qa hb; obtain ⟨g0, g1, g2, g3, f0, f1, f2, f3⟩ := row4_facts q24)
          go_meet
          exact ⟨rfl, below_set4 (below_step hBa hb) (by omega) _ _ _ _, ⟨m3, rowIs_set4 (rowIs_later pa hb) (by omega) _ _ _ _, (hva.later hb).setO4 hfa (by omega) _ _ _ _⟩, m4, row4_set q24, hv24.setO4 hf24 qa.lt _ _ _ _⟩
        case rest =>
          obtain ⟨rfl, hBv, ⟨m5, pv, hv5⟩, m6, qv, hv6⟩ := hcut
          rename World => wv
          obtain ⟨t0, t1, t2, t3, _⟩ := box_facts pv
          obtain ⟨o0, o1, o2, o3, _⟩ := box_facts qv
          go_wp2_with (first
            | (go_at_call 8; refine (num_any _ _ ⟨je1, je2⟩).mono ?_; rintro e w8 ⟨rfl, rfl⟩)
            | (go_at_call 9; refine (samevec_same JX m5 m6 _ (unhide HJF) hv5 hv6).mono ?_; rintro e w9b ⟨rfl, hb9b⟩)
            | (go_at_call 13; refine (unhide H13' _).mono ?_; rintro e w13b ⟨rfl, hb13b⟩))
          go_ret
          exact ⟨rfl, below_step (below_step hBv hb9b) hb13b⟩
end Go.Proofs.Ytifohbapfciniab
