import Derived.Test.YtmjeiepljlepbacGreatFoD
set_option linter.unusedSimpArgs false
set_option linter.unusedVariables false
set_option maxRecDepth 100000
namespace Go.Proofs.YtmjeiepljlepbacGreat
open Go.RowKit Go.Sort

set_option maxHeartbeats 1000000 in
set_option maxRecDepth 100000 in
theorem simp_or (e : Ex) (hf : e.fin) (hc : e.args.any notConst = true) (h20 : e.op = 20) (a : Option Addr) (c : Nat) (lo : Nat) (w : World) (hK : ExK lo w a e.args) : Calls Tryz.prog 83 #[e.val a c] w (SimpOk e lo w) := by
  have hse : simpE e = if e.args.any isTrueE then conE (.num 1) else e := by
    unfold simpE
    rw [hc, h20]
    simp
  obtain ⟨⟨hlen, _, _, _⟩, hfl⟩ := Ex.fin_open hf
  have ha := hK.now
  have HC := hide (fun (W : World) (hW : Below w.heap.size w W) => containsE_any (.func (.func 121) #[] #[]) notConst a c e.args W hlen hfl (Ex.all_later _ ha hW) (test_const W))
  have HT := hide (fun (W : World) (hW : Below w.heap.size w W) => containsE_any (.func (.func 125) #[] #[]) isTrueE a c e.args W hlen hfl (Ex.all_later _ ha hW) (test_true W))
  have HN := hide (fun W => expnum0 1 W)
  have HCO := hide (fun W => constant_any (.num 1) W)
  have HV := hide hse
  have HK := hide hK
  have HB0 : Hid (Below w.heap.size w ((w.alloc (.cells #[.int .i64 e.op, .int .i64 e.n, .int .i64 e.v.k, .int .i64 e.v.n, .string e.v.s, .slice a e.args.length c] 59)).alloc (.cells #[.int .i64 0, .int .i64 0, .int .i64 0, .int .i64 0, .string ⟨#[]⟩, .slice none 0 0] 59))) := below_alloc (below_alloc (Below.refl _ w) _) _
  have H6 : Hid (Six ((w.alloc (.cells #[.int .i64 e.op, .int .i64 e.n, .int .i64 e.v.k, .int .i64 e.v.n, .string e.v.s, .slice a e.args.length c] 59)).alloc (.cells #[.int .i64 0, .int .i64 0, .int .i64 0, .int .i64 0, .string ⟨#[]⟩, .slice none 0 0] 59)) w.heap.size e a c) := (Six.new w e a c).later (below_alloc (Below.refl _ _) _)
  have HZ : Hid (Box6 ((w.alloc (.cells #[.int .i64 e.op, .int .i64 e.n, .int .i64 e.v.k, .int .i64 e.v.n, .string e.v.s, .slice a e.args.length c] 59)).alloc (.cells #[.int .i64 0, .int .i64 0, .int .i64 0, .int .i64 0, .string ⟨#[]⟩, .slice none 0 0] 59)) (w.heap.size + 1) zeroE none 0) := by
    have h := Box6.new (w.alloc (.cells #[.int .i64 e.op, .int .i64 e.n, .int .i64 e.v.k, .int .i64 e.v.n, .string e.v.s, .slice a e.args.length c] 59)) zeroE none 0
    rw [show (w.alloc (.cells #[.int .i64 e.op, .int .i64 e.n, .int .i64 e.v.k, .int .i64 e.v.n, .string e.v.s, .slice a e.args.length c] 59)).heap.size = w.heap.size + 1 by simp [go_sem]] at h
    exact h
  have hl2 : (0 : Int) < (e.args.length : Int) := by
    cases h : e.args with
    | nil => rw [h] at hc; cases hc
    | cons x l => simp
  rw [hc] at HC
  rw [Ex.val_open]
  rw [h20] at HB0 H6 HZ ⊢
  clear ha hc hse hK
  cases ht : e.args.any isTrueE with
  | true =>
    rw [ht] at HT HV
    simp only [if_true] at HV
    clear ht
    go_enter Tryz.func83, Tryz.ntmps83
    go_wp2_with (first
      | (go_at_call 120; refine (unhide HT _ hB1).mono ?_; rintro r w2 ⟨rfl, hb2⟩)
      | (go_at_call 120; refine (unhide HC _ (unhide HB0)).mono ?_; rintro r w1 ⟨rfl, hb1⟩; have hB1 := below_step (unhide HB0) hb1; obtain ⟨b0, b1, b2, b3, b4, b5⟩ := (unhide H6).later hb1)
      | (go_at_call 126; refine (unhide HN w2).mono ?_; rintro r w3 ⟨rfl, hb3⟩)
      | (go_at_call 122; refine (unhide HCO w3).mono ?_; rintro r w4 ⟨rfl, hb4⟩; rw [Ex.val_open]; obtain ⟨⟨z0, z1, z2, z3, z4, z5⟩, f0, f1, f2, f3, f4, f5⟩ := (unhide HZ).later (below_step (below_step (below_step hb1 hb2) hb3) hb4)))
    have hE := put6 (below_step (below_step (below_step hB1 hb2) hb3) hb4) (B := w.heap.size + 1) (by omega) (.int .i64 2) (.int .i64 0) (.int .i64 1) (.int .i64 1) (.string ⟨#[]⟩) (.slice none 0 0)
    refine bodyPost_ret (v := (conE (.num 1)).val none 0) (by simp [results, Tryz.results83, go_sem, Ex.val, Ex.op, Ex.n, Ex.v, Ex.args, Val.num, *]) rfl ⟨none, 0, by rw [unhide HV], by rw [unhide HV]; exact exk_nil _ _ _, hE⟩
  | false =>
    rw [ht] at HT HV
    simp only [Bool.false_eq_true, if_false] at HV
    clear ht
    go_enter Tryz.func83, Tryz.ntmps83
    go_wp2_with (first
      | (go_at_call 120; refine (unhide HT _ hB1).mono ?_; rintro r w2 ⟨rfl, hb2⟩; obtain ⟨b0, b1, b2, b3, b4, b5⟩ := (unhide H6).later (below_step hb1 hb2); obtain ⟨⟨z0, z1, z2, z3, z4, z5⟩, f0, f1, f2, f3, f4, f5⟩ := (unhide HZ).later (below_step hb1 hb2))
      | (go_at_call 120; refine (unhide HC _ (unhide HB0)).mono ?_; rintro r w1 ⟨rfl, hb1⟩; have hB1 := below_step (unhide HB0) hb1; obtain ⟨b0, b1, b2, b3, b4, b5⟩ := (unhide H6).later hb1))
    have hE := put6 (below_step hB1 hb2) (B := w.heap.size + 1) (by omega) (.int .i64 20) (.int .i64 e.n) (.int .i64 e.v.k) (.int .i64 e.v.n) (.string e.v.s) (.slice a e.args.length c)
    refine bodyPost_ret (v := e.val a c) (by simp [results, Tryz.results83, go_sem, Ex.val, *]) rfl ⟨a, c, by rw [unhide HV], by rw [unhide HV]; exact (unhide HK).on (Kept.of_below _ _ hE), hE⟩
end Go.Proofs.YtmjeiepljlepbacGreat
set_option linter.unusedSimpArgs false
set_option linter.unusedVariables false
set_option maxRecDepth 100000
namespace Go.Proofs.YtmjeiepljlepbacGreat
open Go.RowKit Go.Sort

theorem found_two {p : Ex → Bool} {x y : Ex} {r : Int} (h : FoundE p [x, y] r) : r = if p x then 0 else if p y then 1 else -1 := by
  rcases h with ⟨k, z, rfl, hz, hp, hn⟩ | ⟨rfl, h⟩
  · match k, hz, hn with
    | 0, hz, _ =>
      simp at hz
      subst hz
      rw [hp]
      rfl
    | 1, hz, hn =>
      simp at hz
      subst hz
      have := hn 0 x (by omega) rfl
      rw [this, hp]
      rfl
    | k + 2, hz, _ => simp at hz
  · rw [h 0 x rfl, h 1 y rfl]
    rfl
/-- Where a part lies. -/
theorem child_at {lo : Nat} {w : World} {vb vo i : Nat} {l : List Ex} {x : Ex} (hK : ExK lo w (some ⟨vb, vo, none⟩) l) (hx : l[i]? = some x) : ∃ a' c', Cells6 w vb (vo + i * 6) (x, a', c') ∧ ExK lo w a' x.args := by
  obtain ⟨b', o', ee, h1⟩ := Ex.all_get hK.now hx
  injection ee with ee
  injection ee with e1 e2
  subst e1 e2
  obtain ⟨a', c', hcs, _⟩ := Ex.at_open h1
  exact ⟨a', c', hcs, exk_child hK hx hcs.2.2.2.2.2⟩
set_option maxHeartbeats 1000000 in
set_option maxRecDepth 100000 in
theorem simp_and (e : Ex) (hf : e.fin) (hc : e.args.any notConst = true) (h19 : e.op = 19) (x y : Ex) (hxy : e.args = [x, y]) (a : Option Addr) (c : Nat) (lo : Nat) (w : World) (hK : ExK lo w a e.args) : Calls Tryz.prog 83 #[e.val a c] w (SimpOk e lo w) := by
  have hse : simpE e = if isZeroE x then x else if isZeroE y then y else e := by
    unfold simpE
    rw [hc, h19, hxy]
    simp
  obtain ⟨⟨hlen, _, _, _⟩, hfl⟩ := Ex.fin_open hf
  have ha := hK.now
  have HC := hide (fun (W : World) (hW : Below w.heap.size w W) => containsE_any (.func (.func 121) #[] #[]) notConst a c e.args W hlen hfl (Ex.all_later _ ha hW) (test_const W))
  have HI : Hid (∀ (W : World) (hW : Below w.heap.size w W), Calls Tryz.prog 123 #[.slice a e.args.length c, .func (.func 124) #[] #[]] W fun r w' => r = .returned (.int .i64 (if isZeroE x then 0 else if isZeroE y then 1 else -1)) ∧ Below W.heap.size W w') := fun W hW =>
    (indexE_any (.func (.func 124) #[] #[]) isZeroE a c e.args W hlen hfl (Ex.all_later _ ha hW) (test_zero W)).mono fun r w' ⟨q, h1, h2, h3⟩ => by
      rw [hxy] at h2
      rw [found_two h2] at h1
      exact ⟨h1, h3⟩
  obtain ⟨vb, vo, rfl, _⟩ := Ex.all_get ha (i := 0) (e := x) (by rw [hxy]; rfl)
  obtain ⟨ax, cx, hcx, hkx⟩ := child_at hK (i := 0) (x := x) (by rw [hxy]; rfl)
  have HCX : Hid (∀ W, Below w.heap.size w W → Cells6 W vb vo (x, ax, cx)) := fun W hW => by
    rw [Nat.zero_mul, Nat.add_zero] at hcx
    obtain ⟨d0, d1, d2, d3, d4, d5⟩ := hcx
    exact ⟨clater d0 hW, clater d1 hW, clater d2 hW, clater d3 hW, clater d4 hW, clater d5 hW⟩
  have HKX := hide hkx
  obtain ⟨ay, cy, hcy, hky⟩ := child_at hK (i := 1) (x := y) (by rw [hxy]; rfl)
  have HCY : Hid (∀ W, Below w.heap.size w W → Cells6 W vb (vo + 6) (y, ay, cy)) := fun W hW => by
    rw [Nat.one_mul] at hcy
    obtain ⟨d0, d1, d2, d3, d4, d5⟩ := hcy
    exact ⟨clater d0 hW, clater d1 hW, clater d2 hW, clater d3 hW, clater d4 hW, clater d5 hW⟩
  have HKY := hide hky
  have HV := hide hse
  have HK := hide hK
  have HB0 : Hid (Below w.heap.size w ((w.alloc (.cells #[.int .i64 e.op, .int .i64 e.n, .int .i64 e.v.k, .int .i64 e.v.n, .string e.v.s, .slice (some ⟨vb, vo, none⟩) e.args.length c] 59)).alloc (.cells #[.int .i64 0, .int .i64 0, .int .i64 0, .int .i64 0, .string ⟨#[]⟩, .slice none 0 0] 59))) := below_alloc (below_alloc (Below.refl _ w) _) _
  have H6 : Hid (Six ((w.alloc (.cells #[.int .i64 e.op, .int .i64 e.n, .int .i64 e.v.k, .int .i64 e.v.n, .string e.v.s, .slice (some ⟨vb, vo, none⟩) e.args.length c] 59)).alloc (.cells #[.int .i64 0, .int .i64 0, .int .i64 0, .int .i64 0, .string ⟨#[]⟩, .slice none 0 0] 59)) w.heap.size e (some ⟨vb, vo, none⟩) c) := (Six.new w e (some ⟨vb, vo, none⟩) c).later (below_alloc (Below.refl _ _) _)
  have HZ : Hid (Box6 ((w.alloc (.cells #[.int .i64 e.op, .int .i64 e.n, .int .i64 e.v.k, .int .i64 e.v.n, .string e.v.s, .slice (some ⟨vb, vo, none⟩) e.args.length c] 59)).alloc (.cells #[.int .i64 0, .int .i64 0, .int .i64 0, .int .i64 0, .string ⟨#[]⟩, .slice none 0 0] 59)) (w.heap.size + 1) zeroE none 0) := by
    have h := Box6.new (w.alloc (.cells #[.int .i64 e.op, .int .i64 e.n, .int .i64 e.v.k, .int .i64 e.v.n, .string e.v.s, .slice (some ⟨vb, vo, none⟩) e.args.length c] 59)) zeroE none 0
    rw [show (w.alloc (.cells #[.int .i64 e.op, .int .i64 e.n, .int .i64 e.v.k, .int .i64 e.v.n, .string e.v.s, .slice (some ⟨vb, vo, none⟩) e.args.length c] 59)).heap.size = w.heap.size + 1 by simp [go_sem]] at h
    exact h
  have hln : e.args.length = 2 := by rw [hxy]; rfl
  rw [hc] at HC
  rw [Ex.val_open]
  rw [h19, hln] at HB0 H6 HZ ⊢
  rw [hln] at HC HI
  have HLN := hide hln
  clear ha hc hse hK hxy hlen hln hcx hcy hkx hky
  cases hx : isZeroE x with
  | true =>
    rw [hx] at HI HV
    simp only [if_true] at HI HV
    clear hx
    go_enter Tryz.func83, Tryz.ntmps83
    go_wp2_with (first
      | (go_at_call 120; refine (unhide HC _ (unhide HB0)).mono ?_; rintro r w1 ⟨rfl, hb1⟩; have hB1 := below_step (unhide HB0) hb1; obtain ⟨b0, b1, b2, b3, b4, b5⟩ := (unhide H6).later hb1; rw [unhide HLN] at b5)
      | (go_at_call 123; refine (unhide HI _ hB1).mono ?_; rintro r w2 ⟨rfl, hb2⟩; have hB2 := below_step hB1 hb2; obtain ⟨b0, b1, b2, b3, b4, b5⟩ := (unhide H6).later (below_step hb1 hb2); rw [unhide HLN] at b5; obtain ⟨⟨z0, z1, z2, z3, z4, z5⟩, f0, f1, f2, f3, f4, f5⟩ := (unhide HZ).later (below_step hb1 hb2); obtain ⟨x0, x1, x2, x3, x4, x5⟩ := unhide HCX _ hB2; obtain ⟨y0, y1, y2, y3, y4, y5⟩ := unhide HCY _ hB2))
    have hE := put6 hB2 (B := w.heap.size + 1) (by omega) (.int .i64 x.op) (.int .i64 x.n) (.int .i64 x.v.k) (.int .i64 x.v.n) (.string x.v.s) (.slice ax x.args.length cx)
    refine bodyPost_ret (v := x.val ax cx) (by simp [results, Tryz.results83, go_sem, Ex.val, *]) rfl ⟨ax, cx, by rw [unhide HV], by rw [unhide HV]; exact (unhide HKX).on (Kept.of_below _ _ hE), hE⟩
  | false =>
    rw [hx] at HI HV
    simp only [Bool.false_eq_true, if_false] at HI HV
    clear hx
    cases hy : isZeroE y with
    | true =>
      rw [hy] at HI HV
      simp only [if_true] at HI HV
      clear hy
      go_enter Tryz.func83, Tryz.ntmps83
      go_wp2_with (first
        | (go_at_call 120; refine (unhide HC _ (unhide HB0)).mono ?_; rintro r w1 ⟨rfl, hb1⟩; have hB1 := below_step (unhide HB0) hb1; obtain ⟨b0, b1, b2, b3, b4, b5⟩ := (unhide H6).later hb1; rw [unhide HLN] at b5)
        | (go_at_call 123; refine (unhide HI _ hB1).mono ?_; rintro r w2 ⟨rfl, hb2⟩; have hB2 := below_step hB1 hb2; obtain ⟨b0, b1, b2, b3, b4, b5⟩ := (unhide H6).later (below_step hb1 hb2); rw [unhide HLN] at b5; obtain ⟨⟨z0, z1, z2, z3, z4, z5⟩, f0, f1, f2, f3, f4, f5⟩ := (unhide HZ).later (below_step hb1 hb2); obtain ⟨x0, x1, x2, x3, x4, x5⟩ := unhide HCX _ hB2; obtain ⟨y0, y1, y2, y3, y4, y5⟩ := unhide HCY _ hB2))
      have hE := put6 hB2 (B := w.heap.size + 1) (by omega) (.int .i64 y.op) (.int .i64 y.n) (.int .i64 y.v.k) (.int .i64 y.v.n) (.string y.v.s) (.slice ay y.args.length cy)
      refine bodyPost_ret (v := y.val ay cy) (by simp [results, Tryz.results83, go_sem, Ex.val, *]) rfl ⟨ay, cy, by rw [unhide HV], by rw [unhide HV]; exact (unhide HKY).on (Kept.of_below _ _ hE), hE⟩
    | false =>
      rw [hy] at HI HV
      simp only [Bool.false_eq_true, if_false] at HI HV
      clear hy
      go_enter Tryz.func83, Tryz.ntmps83
      go_wp2_with (first
        | (go_at_call 120; refine (unhide HC _ (unhide HB0)).mono ?_; rintro r w1 ⟨rfl, hb1⟩; have hB1 := below_step (unhide HB0) hb1; obtain ⟨b0, b1, b2, b3, b4, b5⟩ := (unhide H6).later hb1; rw [unhide HLN] at b5)
        | (go_at_call 123; refine (unhide HI _ hB1).mono ?_; rintro r w2 ⟨rfl, hb2⟩; have hB2 := below_step hB1 hb2; obtain ⟨b0, b1, b2, b3, b4, b5⟩ := (unhide H6).later (below_step hb1 hb2); rw [unhide HLN] at b5; obtain ⟨⟨z0, z1, z2, z3, z4, z5⟩, f0, f1, f2, f3, f4, f5⟩ := (unhide HZ).later (below_step hb1 hb2); obtain ⟨x0, x1, x2, x3, x4, x5⟩ := unhide HCX _ hB2; obtain ⟨y0, y1, y2, y3, y4, y5⟩ := unhide HCY _ hB2))
      have hE := put6 hB2 (B := w.heap.size + 1) (by omega) (.int .i64 19) (.int .i64 e.n) (.int .i64 e.v.k) (.int .i64 e.v.n) (.string e.v.s) (.slice (some ⟨vb, vo, none⟩) 2 c)
      refine bodyPost_ret (v := e.val (some ⟨vb, vo, none⟩) c) (by simp [results, Tryz.results83, go_sem, Ex.val, unhide HLN, *]) rfl ⟨(some ⟨vb, vo, none⟩), c, by rw [unhide HV], by rw [unhide HV]; exact (unhide HK).on (Kept.of_below _ _ hE), hE⟩
end Go.Proofs.YtmjeiepljlepbacGreat
