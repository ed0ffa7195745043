import Derived.Test.YtjnggnhgambmkaaGreatPackX
set_option linter.unusedSimpArgs false
set_option linter.unusedVariables false
namespace Go.Proofs.YtjnggnhgambmkaaGreat
open Go.RowKit Go.Sort

set_option maxHeartbeats 8000000 in
set_option maxRecDepth 100000 in
theorem pwrite_ok (X : Vc) (p : Sl) (n kd : Nat) (w : World) (hs : small X) (hp : VecAt w X p) (hg : goodB X = true) (hn : n = 1 ∨ n = 2 ∨ n = 3 ∨ n = 4) (hk : X.k = (kd : Int)) (hkd : kd = 1 ∨ kd = 2) (h4 : ¬ (n = 4 ∧ kd = 2)) (hl : X.nl.length ≤ 4096) :
    Calls Tryz.prog 36 #[vecV X p, .int .i64 (n : Int)] w fun e w' => ∃ b, e = .returned (.tuple #[.string (toB (headB n kd (valsV X) ++ b)), .int .i64 0]) ∧ BodyB n (standL (valsV X)) b ∧ Below w.heap.size w w' := by
  rw [vecV_open]
  have bl := below_alloc (Below.refl _ w) (.cells #[.int .i64 X.k, .slice p.a1 X.nl.length p.c1, .slice p.a2 X.ns.length p.c2, .slice p.a3 X.ss.length p.c3] 29)
  have HG := hide (good_any X p _ hs (hp.later bl))
  rw [vecV_open] at HG
  rw [hg] at HG
  have HVL : Hid ((valsV X).length ≤ 4096) := by show _ ≤ _; rw [vals_len hg]; exact hl
  have HVS : Hid (∀ x ∈ valsV X, x.s.size ≤ 1000) := fun x hx => vals_size hg hx
  have HV : Hid (∀ W, Below w.heap.size w W → Calls Tryz.prog 11 #[.agg #[.int .i64 (kd : Int), .slice p.a1 X.nl.length p.c1, .slice p.a2 X.ns.length p.c2, .slice p.a3 X.ss.length p.c3]] W fun e w' => ∃ v, e = .returned v ∧ Hid (OwnV w' W.heap.size v (valsV X)) ∧ Below W.heap.size W w') := fun W hW => by
    have := values_any X p W hs (hp.later hW)
    rw [vecV_open, hk] at this
    exact this
  have HW : Hid (∀ W b0 vv, Hid (OwnV W b0 vv (valsV X)) → Calls Tryz.prog 41 #[.int .i64 (kd : Int), vv, .int .i64 (n : Int)] W fun e w' => ∃ v' b, e = .returned v' ∧ Hid (BodyB n (standL (valsV X)) b) ∧ Hid (OwnB w' W.heap.size v' (headB n kd (valsV X) ++ b)) ∧ Below W.heap.size W w') := fun W b0 vv h => written_any n kd b0 (valsV X) vv W hn (by omega) (unhide HVL) (unhide HVS) h
  have i0 : ¬ (4096 : Int) < (X.nl.length : Int) := by omega
  have i1 : ¬ (n : Int) < 1 := by omega
  have i2 : ¬ (4 : Int) < (n : Int) := by omega
  have hc : ((n : Int) == 4) = true ∧ ((kd : Int) == 2) = false ∨ ((n : Int) == 4) = false := by
    by_cases h : n = 4
    · subst h
      have : kd = 1 := by omega
      subst this
      exact .inl ⟨rfl, rfl⟩
    · right
      simp
      omega
  rw [hk] at bl HG ⊢
  have FACT : Hid (∀ w1, Below (w.alloc (.cells #[.int .i64 (kd : Int), .slice p.a1 X.nl.length p.c1, .slice p.a2 X.ns.length p.c2, .slice p.a3 X.ss.length p.c3] 29)).heap.size (w.alloc (.cells #[.int .i64 (kd : Int), .slice p.a1 X.nl.length p.c1, .slice p.a2 X.ns.length p.c2, .slice p.a3 X.ss.length p.c3] 29)) w1 → w1.cell? ⟨w.heap.size, 0, none⟩ = some (.int .i64 (kd : Int)) ∧ w1.cell? ⟨w.heap.size, 1, none⟩ = some (.slice p.a1 X.nl.length p.c1) ∧ w1.cell? ⟨w.heap.size, 2, none⟩ = some (.slice p.a2 X.ns.length p.c2) ∧ w1.cell? ⟨w.heap.size, 3, none⟩ = some (.slice p.a3 X.ss.length p.c3) ∧ Hid (Below w.heap.size w w1)) := fun w1 hb1 => by
    obtain ⟨hc1, _⟩ := bcell hb1
    refine ⟨?_, ?_, ?_, ?_, below_step bl hb1⟩ <;> (rw [hc1 _ _ (by simp)]; simp [go_sem])
  clear hg bl hk hkd h4 hn hs hp hl
  rcases hc with ⟨e4, e5⟩ | e4
  all_goals
    go_enter Tryz.func36, Tryz.ntmps36
    go_upto_region 8 with (first | (go_at_call 6; refine (unhide HG).mono ?_; rintro e w1 ⟨rfl, hb1⟩; obtain ⟨c0, c1, c2, c3, hbb⟩ := unhide FACT _ hb1; clear hb1) | fail)
    have hS0 : Box4 w1.drew w.heap.size ⟨(kd : Int), X.nl, X.ns, X.ss⟩ p := ⟨c0, c1, c2, c3⟩
    have hbd : Below w.heap.size w w1.drew := (unhide hbb).drew
    clear c0 c1 c2 c3
    refine wp_region_noPanic ?_
    refine wp_region_G (S := fun w' : World => Box4 w' w.heap.size ⟨(kd : Int), X.nl, X.ns, X.ss⟩ p) (k := 5) (by kernel_rfl) ?_
    refine anyG_takel (i := 0) (v := (.pointer (some ⟨w.heap.size, 0, none⟩))) [1, 5] rfl (by kernel_rfl) (by kernel_rfl) (by kernel_rfl) (by kernel_rfl) (fun _ _ _ h => h) (Or.inl ⟨by rfl, fun w' hSw => ?_⟩) hS0 ?_
    · obtain ⟨s0, s1, s2, s3⟩ := hSw; go_simp
    try simp only [Act.put, List.setIfInBounds_toArray, List.set_cons_zero, List.set_cons_succ]
    refine anyG_takel (i := 1) (v := (.int .i64 (kd : Int))) [5] rfl (by kernel_rfl) (by kernel_rfl) (by kernel_rfl) (by kernel_rfl) (fun _ _ _ h => h) (Or.inl ⟨by rfl, fun w' hSw => ?_⟩) hS0 ?_
    · obtain ⟨s0, s1, s2, s3⟩ := hSw; go_simp
    try simp only [Act.put, List.setIfInBounds_toArray, List.set_cons_zero, List.set_cons_succ]
    refine anyG_takel (i := 2) (v := (.agg #[.int .i64 (kd : Int), .slice p.a1 X.nl.length p.c1, .slice p.a2 X.ns.length p.c2, .slice p.a3 X.ss.length p.c3])) [3, 5] rfl (by kernel_rfl) (by kernel_rfl) (by kernel_rfl) (by kernel_rfl) (fun _ _ _ h => h) (Or.inl ⟨by rfl, fun w' hSw => ?_⟩) hS0 ?_
    · obtain ⟨s0, s1, s2, s3⟩ := hSw; go_simp
    try simp only [Act.put, List.setIfInBounds_toArray, List.set_cons_zero, List.set_cons_succ]
    refine anyG_takel (i := 4) (v := (.int .i64 (n : Int))) [5] rfl (by kernel_rfl) (by kernel_rfl) (by kernel_rfl) (by kernel_rfl) (fun _ _ _ h => h) (Or.inl ⟨by rfl, fun w' hSw => ?_⟩) hS0 ?_
    · obtain ⟨s0, s1, s2, s3⟩ := hSw; go_simp
    try simp only [Act.put, List.setIfInBounds_toArray, List.set_cons_zero, List.set_cons_succ]
    refine anyG_one (i := 3) (by kernel_rfl) ?_
    refine wpOp_lit rfl (by rfl) fun K hK => ?_
    go_simp
    refine (unhide HV _ hbd).mono ?_
    rintro e w2 ⟨v2, rfl, HO2, hb2⟩
    have hS2 := hS0.later hb2
    have HB2 := hide (below_step hbd hb2)
    clear hS0 hb2 hbd
    go_simp
    refine unhide hK _ _ ⟨fun _ => hS2, ?_⟩
    clear hK K
    refine anyG_one (i := 5) (by kernel_rfl) ?_
    refine wpOp_lit rfl (by rfl) fun K hK => ?_
    go_simp
    refine (unhide HW _ _ _ HO2).mono ?_
    rintro e w3 ⟨v3, b, rfl, HBY, HO3, hb3⟩
    have HB3 := hide (below_step (unhide HB2) hb3)
    have hcv := convert_own (unhide HO3)
    clear hb3
    go_simp
    refine unhide hK _ _ ⟨fun hh => absurd hh (by decide), ?_⟩
    clear hK K
    refine anyG_one (i := 6) (by kernel_rfl) ?_
    refine wpOp_lit rfl (by rfl) fun K hK => ?_
    go_simp
    refine unhide hK _ _ ⟨fun hh => absurd hh (by decide), ?_⟩
    clear hK K
    refine anyG_one (i := 7) (by kernel_rfl) ?_
    refine wpOp_lit rfl (by rfl) fun K hK => ?_
    go_simp
    refine unhide hK _ _ ⟨fun hh => absurd hh (by decide), ?_⟩
    clear hK K
    refine anyG_one (i := 8) (by kernel_rfl) ?_
    refine wpOp_lit rfl (by rfl) fun K hK => ?_
    go_simp
    refine unhide hK _ _ ⟨fun hh => absurd hh (by decide), ?_⟩
    clear hK K
    refine anyG_done (by kernel_rfl) ?_ _
    refine NoPanic.normal ?_
    go_wp2
    refine bodyPost_ret (v := .tuple #[.string (toB (headB n kd (valsV X) ++ b)), .int .i64 0]) (by simp [results, Tryz.results36, go_sem]) rfl ⟨b, rfl, unhide HBY, unhide HB3⟩
end Go.Proofs.YtjnggnhgambmkaaGreat
set_option linter.unusedSimpArgs false
set_option linter.unusedVariables false
namespace Go.Proofs.YtjnggnhgambmkaaGreat
open Go.RowKit Go.Sort

theorem pwrite_any (X : Vc) (p : Sl) (sch : Int) (w : World) (hs : small X) (hp : VecAt w X p) :
    Calls Tryz.prog 36 #[vecV X p, .int .i64 sch] w fun e w' => ∃ s f, e = .returned (.tuple #[.string s, .int .i64 f]) ∧ Hid (PW X sch s f) ∧ Below w.heap.size w w' := by
  cases hbad : badW X sch
  · by_cases hbig : 4096 < X.nl.length
    · exact (pwrite_large X p sch w hs hp hbad hbig).mono fun e w' ⟨he, hb⟩ => ⟨_, _, he, .inr (.inl ⟨hbad, hbig, rfl, rfl⟩), hb⟩
    · have hb2 := hbad
      simp only [badW, Bool.or_eq_false_iff, Bool.not_eq_false', decide_eq_false_iff_not] at hb2
      obtain ⟨⟨⟨hg, h1⟩, h2⟩, h3⟩ := hb2
      obtain ⟨n, rfl⟩ : ∃ n : Nat, sch = (n : Int) := ⟨sch.toNat, by omega⟩
      obtain ⟨kd, hk⟩ : ∃ kd : Nat, X.k = (kd : Int) := ⟨X.k.toNat, by have := good_kind hg; omega⟩
      have hkd : kd = 1 ∨ kd = 2 := by have := good_kind hg; omega
      refine (pwrite_ok X p n kd w hs hp hg (by omega) hk hkd (fun ⟨a, b⟩ => ?_) (by omega)).mono fun e w' ⟨b, he, hB, hb⟩ => ⟨_, _, he, .inr (.inr ⟨hbad, by omega, rfl, b, ?_, ?_⟩), hb⟩
      · subst a b
        rw [hk] at h3
        exact absurd h3 (by decide)
      · simpa using hB
      · rw [hk]
        simp
  · exact (pwrite_bad X p sch w hs hp hbad).mono fun e w' ⟨he, hb⟩ => ⟨_, _, he, .inl ⟨hbad, rfl, rfl⟩, hb⟩
/-- The shorter of two. -/
def pickB (b s : ByteArray) (f : Int) : ByteArray := if f = 0 ∧ s.size < b.size then s else b
def PB (X : Vc) : Nat → ByteArray → Prop
  | 0, b => PW X 1 b 0
  | i + 1, b => ∃ c s f, PB X i c ∧ PW X ((i : Int) + 2) s f ∧ b = pickB c s f
/-- What the program's Pack answers. -/
def PP (X : Vc) (s : ByteArray) (f : Int) : Prop := (f = 0 ∧ PB X 3 s) ∨ (s = ⟨#[]⟩ ∧ f ≠ 0 ∧ ∃ t, PW X 1 t f)
def two4 (j : Nat) : Value := .int .i64 ((j : Int) + 2)

set_option maxHeartbeats 8000000 in
set_option maxRecDepth 100000 in
theorem ppack_any (X : Vc) (p : Sl) (w : World) (hs : small X) (hp : VecAt w X p) :
    Calls Tryz.prog 19 #[vecV X p] w fun e w' => ∃ s f, e = .returned (.tuple #[.string s, .int .i64 f]) ∧ Hid (PP X s f) ∧ Below w.heap.size w w' := by
  have HW : Hid (∀ W sch, Below w.heap.size w W → Calls Tryz.prog 36 #[vecV X p, .int .i64 sch] W fun e w' => ∃ s f, e = .returned (.tuple #[.string s, .int .i64 f]) ∧ Hid (PW X sch s f) ∧ Below W.heap.size W w') := fun W sch hW => pwrite_any X p sch W hs (hp.later hW)
  rw [vecV_open] at HW ⊢
  have bl := below_alloc (Below.refl _ w) (.cells #[.int .i64 X.k, .slice p.a1 X.nl.length p.c1, .slice p.a2 X.ns.length p.c2, .slice p.a3 X.ss.length p.c3] 29)
  have HW1 := hide (unhide HW _ 1 bl)
  have FACT : Hid (∀ w1, Below (w.alloc (.cells #[.int .i64 X.k, .slice p.a1 X.nl.length p.c1, .slice p.a2 X.ns.length p.c2, .slice p.a3 X.ss.length p.c3] 29)).heap.size (w.alloc (.cells #[.int .i64 X.k, .slice p.a1 X.nl.length p.c1, .slice p.a2 X.ns.length p.c2, .slice p.a3 X.ss.length p.c3] 29)) w1 → Box4 w1 w.heap.size X p ∧ Below w.heap.size w w1) := fun w1 hb1 => by
    obtain ⟨hc1, _⟩ := bcell hb1
    refine ⟨⟨?_, ?_, ?_, ?_⟩, below_step bl hb1⟩ <;> (rw [hc1 _ _ (by simp)]; simp [go_sem])
  clear bl hs hp
  go_enter Tryz.func19, Tryz.ntmps19
  go_upto_region 2 with (first | (go_at_call 36; refine (unhide HW1).mono ?_; rintro e w1 ⟨s1, f1, rfl, HP1, hb1⟩; replace hb1 := hide hb1) | fail)
  rcases Bool.eq_false_or_eq_true (f1 == 0) with e0 | e0
  · have e1 : (f1 != 0) = false := by simp [bne, e0]
    have e2 : f1 = 0 := by simpa using e0
    have HP0 : Hid (PB X 0 s1) := by show PW X 1 s1 0; rw [← e2]; exact unhide HP1
    clear e0 e2 HP1
    go_wp2_with fail
    have HB1 := hide (unhide FACT _ (unhide hb1)).2
    have HX1 := hide (unhide FACT _ (unhide hb1)).1
    have HL1 : Hid ((w1.alloc (.cells #[.int .i64 2, .int .i64 3, .int .i64 4] 3)).rowIs w1.heap.size 3 3 two4) := World.rowIs_alloc w1 #[.int .i64 2, .int .i64 3, .int .i64 4] 3 two4 (fun i hi => by
      match i, hi with
      | 0, _ => rfl
      | 1, _ => rfl
      | 2, _ => rfl)
    have hsz1 : w.heap.size < w1.heap.size := World.block_lt_of_cell? _ _ (unhide HX1).1
    go_loopw [4, 20] (fun s4 s wr => ∃ (i : Nat) (b : ByteArray), i ≤ 3 ∧ s = .int .i64 (i : Int) ∧ s4 = .string b ∧ Hid (PB X i b) ∧ wr.rowIs w1.heap.size 3 3 two4 ∧ Below w1.heap.size w1 wr) (fun _ s _ => 3 - (intOf s).toNat)
    case atStart => exact ⟨0, s1, by omega, rfl, rfl, unhide HP0, unhide HL1, below_alloc (Below.refl _ _) _⟩
    case round =>
      obtain ⟨i, b, hi, rfl, rfl, HPB, hr, hb⟩ := hrel
      by_cases h8 : i < 3
      · have h9 : (i : Int) < 3 := by omega
        obtain ⟨x0, x1, x2, x3⟩ := (unhide HX1).later hb
        have hc : wr.cell? ⟨w1.heap.size, i, none⟩ = some (.int .i64 ((i : Int) + 2)) := hr.cell h8
        have HWi := hide (unhide HW wr ((i : Int) + 2) (below_step (unhide HB1) hb))
        have HR := hide hr
        have HB := hide hb
        clear hr hb
        go_upto_region 8 with (first | (go_at_call 36; refine (unhide HWi).mono ?_; rintro e w2 ⟨s2, f2, rfl, HP2, hb2⟩; have HR2 := hide (rowIs_later (unhide HR) hb2); have HB2 := hide (below_step (unhide HB) hb2); clear hb2) | fail)
        rcases Bool.eq_false_or_eq_true (f2 == 0) with e0 | e0
        · by_cases hlt : s2.size < b.size
          · have j1 : (s2.size : Int) < (b.size : Int) := by omega
            have HN : Hid (PB X (i + 1) s2) := ⟨b, s2, f2, unhide HPB, unhide HP2, by rw [pickB, if_pos ⟨by simpa using e0, hlt⟩]⟩
            go_wp2
            go_roundw
            case rel => exact ⟨i + 1, s2, by omega, by go_num, rfl, HN, unhide HR2, unhide HB2⟩
            case measure => first | (simp [intOf]; omega) | (simp only [intOf]; omega)
          · have j1 : ¬ (s2.size : Int) < (b.size : Int) := by omega
            have HN : Hid (PB X (i + 1) b) := ⟨b, s2, f2, unhide HPB, unhide HP2, by rw [pickB, if_neg (fun h => hlt h.2)]⟩
            go_wp2
            go_roundw
            case rel => exact ⟨i + 1, b, by omega, by go_num, rfl, HN, unhide HR2, unhide HB2⟩
            case measure => first | (simp [intOf]; omega) | (simp only [intOf]; omega)
        · have HN : Hid (PB X (i + 1) b) := ⟨b, s2, f2, unhide HPB, unhide HP2, by rw [pickB, if_neg (fun h => by simp [h.1] at e0)]⟩
          go_wp2
          go_roundw
          case rel => exact ⟨i + 1, b, by omega, by go_num, rfl, HN, unhide HR2, unhide HB2⟩
          case measure => first | (simp [intOf]; omega) | (simp only [intOf]; omega)
      · have h9 : ¬ (i : Int) < 3 := by omega
        have h3 : i = 3 := by omega
        rw [h3] at HPB
        have HE : Hid (PP X b 0) := .inl ⟨rfl, unhide HPB⟩
        have HB := hide (below_step (unhide HB1) hb)
        clear hr hb h3
        go_wp2
        refine bodyPost_ret (v := .tuple #[.string b, .int .i64 0]) (by simp [results, Tryz.results19, go_sem]) rfl ⟨_, _, rfl, HE, unhide HB⟩
  · have e1 : (f1 != 0) = true := by simp [bne, e0]
    have HE : Hid (PP X ⟨#[]⟩ f1) := .inr ⟨rfl, by simpa using e0, s1, unhide HP1⟩
    have HB := hide (unhide FACT _ (unhide hb1)).2
    clear e0
    go_wp2
    refine bodyPost_ret (v := .tuple #[.string ⟨#[]⟩, .int .i64 f1]) (by simp [results, Tryz.results19, go_sem]) rfl ⟨_, _, rfl, HE, unhide HB⟩
end Go.Proofs.YtjnggnhgambmkaaGreat
